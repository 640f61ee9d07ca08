package store_test

import (
	"fmt"
	"slices"
	"strings"
	"testing"

	"foreman/api"
	"foreman/sum"
)

// Test81Put: a key is a text's sum, by which it is told; a record that is there is not put again, and stays in its place.
func Test81Put(t *testing.T) {
	d, x := fresh(t, 100)
	has(t, x)
	puts(t, x, "b", "", "a", "b", "c", "", "a")
	has(t, x, "b", "", "a", "c")
	key, _ := x.Put("abc")
	if !strings.HasPrefix(sum.Hex(key), "ba7816bf") {
		t.Errorf("the key of abc is %x", key)
	}
	has(t, x, "b", "", "a", "c", "abc")
	has(t, crashed(t, d), "b", "", "a", "c", "abc")
}

// Test81Get: there is no record of such a key.
func Test81Get(t *testing.T) {
	_, x := fresh(t, 100)
	lacks(t, x, "a")
	puts(t, x, "a", "")
	key := sum.Sum("a")
	for _, k := range []string{"", "a", key[:31], key + "\x00", sum.Hex(key), sum.Sum("b"), strings.Repeat("\x00", 32), strings.Repeat("x", 100000)} {
		s, err := x.Get(k)
		tells(t, fmt.Sprintf("Get of %.80q", k), err, api.ErrMissing)
		if s != "" {
			t.Errorf("Get of %.80q: %q beside its error", k, s)
		}
	}
	has(t, x, "a", "")
}

// Test81Sizes: records of all lengths around those of sectors, and of the greatest one, are there as they were Put, also behind a crash.
func Test81Sizes(t *testing.T) {
	var l []string
	for _, from := range []int{0, 1000, api.MaxRecord - 70} {
		for size := from; size <= min(from+300, api.MaxRecord); size++ {
			for _, letter := range []string{"\x00", "\xff", "H"} {
				if size > 0 || letter == "H" {
					l = append(l, strings.Repeat(letter, size))
				}
			}
		}
	}
	for len(l) > 0 {
		n := min(20, len(l))
		d, x := fresh(t, 4000)
		puts(t, x, l[:n]...)
		has(t, x, l[:n]...)
		has(t, crashed(t, d), l[:n]...)
		l = l[n:]
	}
}

// All bytes may stand in a record, at all places of a sector.
func Test81Bytes(t *testing.T) {
	var s []byte
	for i := range 256 {
		s = append(s, byte(i))
	}
	d, x := fresh(t, 2000)
	var want []string
	for i := range api.Sector {
		want = append(want, string(s[i:])+string(s[:i]))
	}
	puts(t, x, want...)
	has(t, crashed(t, d), want...)
}

// Test81Limit: MaxRecord bytes are enough; that is told ahead of ErrFull and of the disk's errors.
func Test81Limit(t *testing.T) {
	d, x := fresh(t, 1000)
	most := strings.Repeat("z", api.MaxRecord)
	for _, s := range []string{most + "z", most + "\x00", most + most + most} {
		fails(t, x, s, api.ErrLimit)
		lacks(t, x, s)
	}
	puts(t, x, most)
	fails(t, x, most+"z", api.ErrLimit)
	has(t, crashed(t, d), most)
	d, x = fresh(t, 8)
	fails(t, x, most+"z", api.ErrLimit)
	d.Fuse(0)
	fails(t, x, most+"z", api.ErrLimit)
	fails(t, x, most, api.ErrFull)
	fails(t, x, "a", api.ErrDevice)
	has(t, x)
}

// Test81Full: where there is no room, all that was there is there yet, and told again; that is told ahead of the disk's errors.
func Test81Full(t *testing.T) {
	for _, sectors := range []int{8, 9, 17, 300} {
		for _, size := range []int{2, 28, 29, 30, 91, 92, 93, 500} {
			d, x := fresh(t, sectors)
			var there []string
			for {
				s := text(len(there), size)
				_, err := x.Put(s)
				if err != nil {
					tells(t, "Put", err, api.ErrFull)
					lacks(t, x, s)
					break
				}
				there = append(there, s)
			}
			if weight(append(there, text(0, size))...) <= half(d) {
				t.Errorf("%d sectors have no room for %d records of %d bytes", sectors, len(there)+1, size)
			}
			d.Fuse(0)
			fails(t, x, text(len(there), size), api.ErrFull)
			puts(t, x, there...)
			has(t, x, there...)
			x = crashed(t, d)
			has(t, x, there...)
			fails(t, x, text(len(there), size), api.ErrFull)
		}
	}
}

// Test81Room: never ErrFull, while all records, 200 bytes more for each, are at most half of the disk's bytes, whatever was Put and told an error between.
func Test81Room(t *testing.T) {
	for _, sectors := range []int{8, 9, 10, 11, 12, 13, 20, 50, 333, 1000} {
		for _, size := range []int{1, 2, 27, 28, 29, 30, 55, 56, 57, 63, 64, 65, 120, 1000, 3000, 8000} {
			d, x := fresh(t, sectors)
			var there []string
			for {
				s := text(len(there), size)
				if weight(append(there, s)...) > half(d) {
					break
				}
				d.Fuse(len(there) % 5)
				failed := s + strings.Repeat("failed", 50)
				x.Put(failed)
				d.Fuse(-1)
				lacks(t, x, failed)
				puts(t, x, s)
				there = append(there, s)
			}
			has(t, x, there...)
			if x = crashed(t, d); !slices.Equal(texts(t, x)[:len(there)], there) {
				t.Errorf("%d sectors lost records of %d bytes", sectors, size)
			}
		}
	}
}

// The greatest disk has room for half of it, too.
func Test81GreatDisk(t *testing.T) {
	for _, size := range []int{0, 62, 8000} {
		d, x := fresh(t, api.MaxDisk)
		var there []string
		for n := 0; n+size+8+200 <= half(d); n += size + 8 + 200 {
			there = append(there, fmt.Sprintf("%08d", len(there))+strings.Repeat("x", min(size, api.MaxRecord-8)))
		}
		puts(t, x, there...)
		has(t, crashed(t, d), there...)
	}
}

// Test81Device: at the disk's errors a record is not there, all others are, and where the disk does it again it is Put behind them.
func Test81Device(t *testing.T) {
	long := strings.Repeat("long", 100)
	for _, again := range []string{long, "short", "", strings.Repeat("longer", 100)} {
		for n := 0; ; n++ {
			d, x := fresh(t, 200)
			puts(t, x, "a", "b")
			d.Fuse(n)
			if _, err := x.Put(long); err == nil {
				break
			}
			fails(t, x, long, api.ErrDevice)
			lacks(t, x, long)
			has(t, x, "a", "b")
			puts(t, x, "b", "a")
			d.Fuse(-1)
			lacks(t, x, long)
			puts(t, x, again)
			has(t, x, "a", "b", again)
			puts(t, x, "c")
			has(t, x, "a", "b", again, "c")
			has(t, crashed(t, d), "a", "b", again, "c")
		}
	}
}

// A record that is there is told, though the disk does nothing, by a store that is opened only then, too.
func Test81ThereWithoutDisk(t *testing.T) {
	d, x := fresh(t, 100)
	puts(t, x, "a", "b")
	d.Fuse(0)
	puts(t, x, "b", "a")
	fails(t, x, "c", api.ErrDevice)
	x = opened(t, d)
	has(t, x, "a", "b")
	puts(t, x, "b", "a")
	fails(t, x, "c", api.ErrDevice)
	has(t, x, "a", "b")
	d.Fuse(-1)
	puts(t, x, "c")
	has(t, crashed(t, d), "a", "b", "c")
}

// Test81Sure: what is Put is sure at once.
func Test81Sure(t *testing.T) {
	d, x := fresh(t, 1000)
	var there []string
	for i := range 30 {
		s := text(i, i*20)
		puts(t, x, s)
		there = append(there, s)
		x = crashed(t, d)
		has(t, x, there...)
	}
}

// Test81LeavesSectors: sectors 0 and 1 are others', whatever is Put, fails, or is lost.
func Test81LeavesSectors(t *testing.T) {
	d := made(t, 50)
	zero := strings.Repeat("\x00", api.Sector)
	same := func(first, second string) {
		t.Helper()
		for at, want := range []string{first, second} {
			if got, err := d.Read(at); err != nil || got != want {
				t.Errorf("sector %d is %q, error %v, want %q", at, got, err, want)
			}
		}
	}
	x := opened(t, d)
	puts(t, x, "a", strings.Repeat("b", 200))
	same(zero, zero)
	first, second := strings.Repeat("H", api.Sector), strings.Repeat("\xff", api.Sector)
	tells(t, "Write", d.Write(0, first), api.OK)
	tells(t, "Write", d.Write(1, second), api.OK)
	tells(t, "Sync", d.Sync(), api.OK)
	x = crashed(t, d)
	has(t, x, "a", strings.Repeat("b", 200))
	for n := range 6 {
		d.Fuse(n)
		x.Put(strings.Repeat("c", 100))
		x = crashed(t, d, bits(n, 3)...)
		same(first, second)
	}
	for i := range 100 {
		x.Put(text(i, 40))
	}
	same(first, second)
	crashed(t, d)
	same(first, second)
}

// What lies in sectors 0 and 1 is nothing to a store, though it looks like its own records.
func Test81SectorsAheadAreNothing(t *testing.T) {
	one, x := fresh(t, 20)
	puts(t, x, "a", "b")
	two := made(t, 20)
	for at := range 2 {
		s, _ := one.Read(at + 2)
		tells(t, "Write", two.Write(at, s), api.OK)
	}
	tells(t, "Sync", two.Sync(), api.OK)
	has(t, opened(t, two))
}

// TestP1: whatever lies on a disk, Open ends, and what is Put then is there.
func TestP1(t *testing.T) {
	n := drawn(1)
	image := made(t, 60)
	x := opened(t, image)
	for i := range 12 {
		puts(t, x, text(i, i*15))
	}
	for range 2000 {
		d := made(t, 8+n(60))
		for at := range d.Size() {
			s, _ := image.Read(n(image.Size()))
			b := []byte(s)
			for range n(3) {
				b[n(len(b))] = byte(n(256))
			}
			tells(t, "Write", d.Write(at, string(b)), api.OK)
		}
		x := opened(t, d)
		there := texts(t, x)
		if _, err := x.Put("put"); err != nil {
			tells(t, "Put", err, api.ErrFull)
			continue
		}
		if got := texts(t, crashed(t, d)); !slices.Equal(got[:min(len(got), len(there)+1)], append(there, "put")) {
			t.Fatalf("there are %q, want %q, and put", got, there)
		}
	}
}

// TestP4: what a store tells is the caller's, and one store is nothing to another.
func TestP4(t *testing.T) {
	_, x := fresh(t, 100)
	d, y := fresh(t, 100)
	puts(t, x, "a", "b", "c")
	l := x.Keys()
	clear(l)
	_ = append(l[:1], "x", "y")
	has(t, x, "a", "b", "c")
	l = x.Keys()
	puts(t, x, "d")
	_ = append(l, "e")
	has(t, x, "a", "b", "c", "d")
	has(t, y)
	puts(t, y, "z")
	d.Fuse(0)
	puts(t, x, "e")
	has(t, x, "a", "b", "c", "d", "e")
	has(t, y, "z")
}
