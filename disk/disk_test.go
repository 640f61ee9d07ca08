package disk_test

import (
	"fmt"
	"math"
	"slices"
	"strings"
	"testing"

	"foreman/api"
	"foreman/disk"
)

// long is a text that is too long for a sector.
var long = strings.Repeat("x", api.Sector+1)

// Test71New: from 8 to MaxDisk sectors, all of them 0.
func Test71New(t *testing.T) {
	for _, n := range []int{small, small + 1, 1000, api.MaxDisk} {
		d := made(t, n)
		if d.Size() != n {
			t.Errorf("a disk of %d has %d", n, d.Size())
		}
		holds(t, d)
	}
	for _, n := range []int{math.MinInt, -8, -1, 0, 1, 7, api.MaxDisk + 1, math.MaxInt32, math.MaxInt} {
		d, err := disk.New(n)
		tells(t, fmt.Sprint("New of ", n), err, api.ErrRange)
		if d != nil {
			t.Errorf("New of %d: a disk beside its error", n)
		}
	}
}

// A new disk is sure, and has no fuse.
func Test71NewIsSure(t *testing.T) {
	d := made(t, small)
	d.Crash([]bool{true, true})
	holds(t, d)
	d = made(t, small)
	for range 1000 {
		writes(t, d, 0, "a")
		syncs(t, d)
	}
}

// Test71Read: what was written last, sure or not, to the first sector and to the last.
func Test71Read(t *testing.T) {
	d := made(t, small)
	writes(t, d, 0, "a")
	writes(t, d, small-1, "z")
	holds(t, d, "a", "", "", "", "", "", "", "z")
	writes(t, d, 0, "b")
	holds(t, d, "b", "", "", "", "", "", "", "z")
	syncs(t, d)
	holds(t, d, "b", "", "", "", "", "", "", "z")
	writes(t, d, small-1, "")
	writes(t, d, 1, "c")
	holds(t, d, "b", "c")
}

// Whatever a sector had, behind what is written there is 0.
func Test71ZeroBehind(t *testing.T) {
	whole := strings.Repeat("\xff", api.Sector)
	for n := range api.Sector + 1 {
		d := made(t, small)
		writes(t, d, 2, whole)
		if n%2 == 0 {
			syncs(t, d)
		}
		s := strings.Repeat("\x01", n)
		writes(t, d, 2, s)
		holds(t, d, "", "", s)
		syncs(t, d)
		holds(t, d, "", "", s)
	}
}

// All bytes may be written, a 0 at the end, too.
func Test71Bytes(t *testing.T) {
	d := made(t, small)
	for from := 0; from < 256; from += api.Sector {
		var l []byte
		for i := range api.Sector {
			l = append(l, byte(from+i))
		}
		writes(t, d, from/api.Sector, string(l))
		if got, _ := d.Read(from / api.Sector); got != string(l) {
			t.Errorf("%q, want %q", got, l)
		}
	}
	writes(t, d, 4, "a\x00b\x00")
	if got, _ := d.Read(4); got != full("a\x00b") {
		t.Errorf("%q", got)
	}
}

// Test71Range: there is no such sector.
func Test71Range(t *testing.T) {
	for _, n := range []int{small, api.MaxDisk} {
		d := made(t, n)
		for _, at := range []int{math.MinInt, -n, -1, n, n + 1, math.MaxInt} {
			s, err := d.Read(at)
			tells(t, fmt.Sprint("Read of ", at), err, api.ErrRange)
			if s != "" {
				t.Errorf("Read of %d: %q beside its error", at, s)
			}
			tells(t, fmt.Sprint("Write to ", at), d.Write(at, "a"), api.ErrRange)
		}
		holds(t, d)
	}
}

// Test71Limit: more than Sector bytes, even if all behind them are 0.
func Test71Limit(t *testing.T) {
	d := made(t, small)
	writes(t, d, 0, long[:api.Sector])
	for _, s := range []string{long, full("a") + "\x00", strings.Repeat("y", 10000)} {
		tells(t, "Write", d.Write(0, s), api.ErrLimit)
		holds(t, d, long[:api.Sector])
	}
}

// Where several errors apply, ErrRange is ahead of ErrLimit, and that of ErrDevice.
func Test71FirstError(t *testing.T) {
	for _, fuse := range []int{-1, 0, 1} {
		d := made(t, small)
		d.Fuse(fuse)
		tells(t, "no sector, too long", d.Write(small, long), api.ErrRange)
		tells(t, "no sector", d.Write(-1, "a"), api.ErrRange)
		tells(t, "too long", d.Write(0, long), api.ErrLimit)
		holds(t, d)
	}
}

// Test71Fuse: so many writes and syncs are done, none behind them.
func Test71Fuse(t *testing.T) {
	for n := range 10 {
		d := made(t, small)
		d.Fuse(n)
		for i := range n {
			if i%3 == 2 {
				syncs(t, d)
			} else {
				writes(t, d, 0, fmt.Sprint(i))
			}
		}
		was, _ := d.Read(0)
		for range 5 {
			tells(t, "Write behind the fuse", d.Write(0, "behind"), api.ErrDevice)
			tells(t, "Sync behind the fuse", d.Sync(), api.ErrDevice)
		}
		if got, err := d.Read(0); err != nil || got != was {
			t.Errorf("behind a fuse of %d: %q, error %v, want %q", n, got, err, was)
		}
	}
}

// A spent fuse stays spent, however much is asked for behind it, until another one is told.
func Test71SpentStays(t *testing.T) {
	d := made(t, small)
	d.Fuse(1)
	writes(t, d, 0, "a")
	for range 1000 {
		tells(t, "Write", d.Write(0, "b"), api.ErrDevice)
		tells(t, "Sync", d.Sync(), api.ErrDevice)
	}
	d.Fuse(2)
	writes(t, d, 0, "c")
	writes(t, d, 1, "d")
	tells(t, "Write", d.Write(0, "e"), api.ErrDevice)
	holds(t, d, "c", "d")
}

// Below 0 there is no fuse, also where one was spent.
func Test71NoFuse(t *testing.T) {
	for _, n := range []int{-1, -2, math.MinInt} {
		for _, ahead := range []int{0, 1, math.MaxInt} {
			d := made(t, small)
			d.Fuse(ahead)
			d.Fuse(n)
			for i := range 100 {
				writes(t, d, i%small, "a")
				syncs(t, d)
			}
		}
	}
}

// A great fuse lets much be done.
func Test71GreatFuse(t *testing.T) {
	d := made(t, small)
	d.Fuse(math.MaxInt)
	for range 100 {
		writes(t, d, 0, "a")
		syncs(t, d)
	}
}

// What is told ErrRange or ErrLimit takes nothing off the fuse, nor do reads.
func Test71WhatTakesNothing(t *testing.T) {
	d := made(t, small)
	d.Fuse(2)
	for range 10 {
		tells(t, "no sector", d.Write(-1, "a"), api.ErrRange)
		tells(t, "too long", d.Write(0, long), api.ErrLimit)
		holds(t, d)
		d.Size()
	}
	writes(t, d, 0, "a")
	for range 10 {
		tells(t, "too long", d.Write(0, long), api.ErrLimit)
	}
	syncs(t, d)
	tells(t, "Sync", d.Sync(), api.ErrDevice)
}

// A Sync at which nothing is to be made sure takes one off the fuse, too.
func Test71EmptySync(t *testing.T) {
	d := made(t, small)
	d.Fuse(2)
	syncs(t, d)
	syncs(t, d)
	tells(t, "Write", d.Write(0, "a"), api.ErrDevice)
	holds(t, d)
}

// Test71Sync: what is sure is there behind each crash.
func Test71Sync(t *testing.T) {
	d := made(t, small)
	writes(t, d, 0, "a")
	writes(t, d, 1, "b")
	writes(t, d, 0, "c")
	syncs(t, d)
	writes(t, d, 0, "lost")
	writes(t, d, 2, "lost")
	d.Crash(nil)
	holds(t, d, "c", "b")
	d.Crash([]bool{false, false, false, true})
	holds(t, d, "c", "b")
}

// A Sync that is not done makes nothing sure, and loses nothing.
func Test71SyncNotDone(t *testing.T) {
	d := made(t, small)
	d.Fuse(2)
	writes(t, d, 0, "a")
	writes(t, d, 1, "b")
	tells(t, "Sync", d.Sync(), api.ErrDevice)
	holds(t, d, "a", "b")
	d.Crash([]bool{false, true})
	holds(t, d, "", "b")
}

// Test71Crash: of all keeps those writes are there that are kept, and of several to one sector the last of these.
func Test71Crash(t *testing.T) {
	places := []int{0, 1, 0, 2, 0, 1}
	for length := range len(places) + 3 {
		for bits := range 1 << length {
			d := made(t, small)
			for at := range 3 {
				writes(t, d, at, "sure")
			}
			syncs(t, d)
			for i, at := range places {
				writes(t, d, at, fmt.Sprint(i))
			}
			var keeps []bool
			want := []string{"sure", "sure", "sure"}
			for i := range length {
				keeps = append(keeps, bits>>i&1 == 1)
				if keeps[i] && i < len(places) {
					want[places[i]] = fmt.Sprint(i)
				}
			}
			d.Crash(keeps)
			holds(t, d, want...)
			d.Crash(nil)
			holds(t, d, want...)
		}
	}
}

// What is behind the length of keeps tells nothing: such a write is lost.
func Test71CrashBehindKeeps(t *testing.T) {
	d := made(t, small)
	writes(t, d, 0, "a")
	writes(t, d, 1, "b")
	d.Crash([]bool{true, true}[:1])
	holds(t, d, "a")
}

// What keeps tells begins with the first write that is not sure: those that are sure, lost, or were not done are not counted.
func Test71CrashCounts(t *testing.T) {
	d := made(t, small)
	writes(t, d, 0, "a")
	writes(t, d, 1, "b")
	syncs(t, d)
	tells(t, "no sector", d.Write(small, "c"), api.ErrRange)
	tells(t, "too long", d.Write(2, long), api.ErrLimit)
	writes(t, d, 2, "d")
	d.Fuse(0)
	tells(t, "spent", d.Write(3, "e"), api.ErrDevice)
	d.Fuse(-1)
	writes(t, d, 4, "f")
	writes(t, d, 5, "g")
	d.Crash([]bool{false, true, false, true, true})
	holds(t, d, "a", "b", "", "", "f")
	writes(t, d, 6, "h")
	writes(t, d, 7, "i")
	d.Crash([]bool{true})
	holds(t, d, "a", "b", "", "", "f", "", "h")
}

// A write that changes nothing is one of those that keeps tells of.
func Test71CrashCountsAll(t *testing.T) {
	d := made(t, small)
	writes(t, d, 0, "")
	writes(t, d, 1, "a")
	writes(t, d, 1, "a")
	writes(t, d, 2, "b")
	d.Crash([]bool{true, false, false, true})
	holds(t, d, "", "", "b")
}

// Behind a crash there is no fuse, spent or not.
func Test71CrashEndsFuse(t *testing.T) {
	for _, n := range []int{0, 1, 5} {
		d := made(t, small)
		d.Fuse(n)
		d.Crash(nil)
		for range 10 {
			writes(t, d, 0, "a")
			syncs(t, d)
		}
		d.Fuse(1)
		syncs(t, d)
		tells(t, "Sync", d.Sync(), api.ErrDevice)
	}
}

// Fuse itself changes no sector, and makes nothing sure.
func Test71FuseAlone(t *testing.T) {
	d := made(t, small)
	writes(t, d, 0, "a")
	d.Fuse(3)
	holds(t, d, "a")
	d.Crash(nil)
	holds(t, d)
}

// TestP4: what is handed in is neither written into nor kept, and one disk is nothing to another.
func TestP4(t *testing.T) {
	a, b := made(t, small), made(t, small)
	for i := range 4 {
		writes(t, a, i, fmt.Sprint(i))
	}
	keeps := []bool{true, false, true, false, true}
	a.Crash(keeps[:3])
	if !slices.Equal(keeps, []bool{true, false, true, false, true}) {
		t.Errorf("keeps are %v", keeps)
	}
	clear(keeps)
	writes(t, a, 3, "d")
	keeps[0] = true
	holds(t, a, "0", "", "2", "d")
	holds(t, b)
	b.Fuse(0)
	writes(t, a, 1, "b")
	syncs(t, a)
	holds(t, b)
}
