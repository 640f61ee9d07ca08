package store_test

import (
	"fmt"
	"slices"
	"strings"
	"testing"

	"foreman/api"
	"foreman/disk"
	"foreman/store"
	"foreman/sum"
)

// began asks that these records are there, in this order, and behind them perhaps some of the others: all that is there.
func began(t *testing.T, x *store.Store, there, perhaps []string) []string {
	t.Helper()
	got := texts(t, x)
	if len(got) < len(there) || !slices.Equal(got[:len(there)], there) {
		t.Fatalf("there are %.900q, want first %.900q", got, there)
	}
	for i, s := range got[len(there):] {
		if !slices.Contains(perhaps, s) || slices.Contains(got[:len(there)+i], s) {
			t.Fatalf("%.100q is there, behind %.900q", s, there)
		}
	}
	return got
}

// Test82Cut: wherever a Put is cut off, and whichever of its writes are kept: what was told is there, the record wholly or not at all, and what is Put behind it is there, too.
func Test82Cut(t *testing.T) {
	for _, s := range []string{"", "x", text(1, 30), text(2, 150), strings.Repeat("\x00", 100)} {
		for n := 0; ; n++ {
			cut := false
			for keeps := range 1 << 5 {
				for _, next := range []string{s, "y", text(3, 29), text(4, 90), text(5, 300)} {
					d, x := fresh(t, 60)
					puts(t, x, "a", text(0, 100))
					d.Fuse(n)
					_, err := x.Put(s)
					if err == nil {
						break
					}
					cut = true
					tells(t, "Put", err, api.ErrDevice)
					x = crashed(t, d, bits(keeps, 5)...)
					there := began(t, x, []string{"a", text(0, 100)}, []string{s})
					puts(t, x, next)
					if !slices.Contains(there, next) {
						there = append(there, next)
					}
					has(t, x, there...)
					began(t, crashed(t, d), there, []string{s})
				}
			}
			if !cut {
				break
			}
		}
	}
}

// Whatever is cut off again and again in one place: what was told is there.
func Test82CutAgain(t *testing.T) {
	n := drawn(82)
	for range 500 {
		d, x := fresh(t, 200)
		puts(t, x, "a", "b")
		there := []string{"a", "b"}
		var failed []string
		for i := range 1 + n(8) {
			s := text(i, n(400))
			d.Fuse(n(8))
			if _, err := x.Put(s); err == nil {
				there = append(there, s)
				continue
			}
			failed = append(failed, s)
			if n(2) == 0 {
				there = began(t, crashed(t, d, bits(n(1<<10), 10)...), there, failed)
				x = opened(t, d)
			}
		}
		began(t, crashed(t, d, bits(n(1<<20), 20)...), there, failed)
	}
}

// A record that a Put left there, though it told an error, is sure as soon as it is told, and holds what is Put behind it: by a store that is opened without a crash.
func Test82OpenedAgain(t *testing.T) {
	s := text(1, 100)
	for n := range 10 {
		for _, early := range []bool{true, false} {
			for _, next := range []string{s, "c"} {
				d, x := fresh(t, 60)
				puts(t, x, "a", "b")
				d.Fuse(n)
				x.Put(s)
				if early {
					d.Fuse(-1)
				}
				x = opened(t, d)
				began(t, x, []string{"a", "b"}, []string{s})
				d.Fuse(-1)
				puts(t, x, next)
				there := texts(t, x)
				if there[len(there)-1] != next {
					t.Fatalf("there are %q", there)
				}
				has(t, crashed(t, d), there...)
			}
		}
	}
}

// A store that was opened without a crash, and used behind one, tells only what is there.
func Test82UsedBehindCrash(t *testing.T) {
	s := text(1, 100)
	for n := range 10 {
		for keeps := range 1 << 4 {
			d, x := fresh(t, 60)
			puts(t, x, "a", "b")
			d.Fuse(n)
			x.Put(s)
			x = opened(t, d)
			d.Crash(bits(keeps, 4))
			puts(t, x, "c")
			there := texts(t, x)
			if !slices.Equal(there[:2], []string{"a", "b"}) || there[len(there)-1] != "c" {
				t.Fatalf("there are %q", there)
			}
			has(t, crashed(t, d), there...)
		}
	}
}

// Records that are opened again and again without anything else are the same.
func Test82OpenChangesNothing(t *testing.T) {
	d, x := fresh(t, 300)
	var there []string
	for i := range 40 {
		there = append(there, text(i, i*7))
	}
	puts(t, x, there...)
	for i := range 20 {
		has(t, opened(t, d), there...)
		has(t, crashed(t, d, bits(i, 5)...), there...)
	}
}

// raw is what a record looks like on a disk.
func raw(t *testing.T, s string) string {
	t.Helper()
	d, x := fresh(t, 100)
	puts(t, x, s)
	var b strings.Builder
	for at := 2; at < d.Size(); at++ {
		s, _ := d.Read(at)
		b.WriteString(s)
	}
	return strings.TrimRight(b.String(), "\x00")
}

// holding are texts in which something lies that looks like a record, with its first byte and without, at all places of a sector.
func holding(t *testing.T) []string {
	t.Helper()
	look := raw(t, "lies in it")
	var l []string
	for shift := range api.Sector {
		for _, s := range []string{look, look[1:]} {
			l = append(l, strings.Repeat("-", api.Sector+shift)+s+strings.Repeat("-", 100))
		}
	}
	return l
}

// What lies in a text that was Put is no record.
func Test82LiesInText(t *testing.T) {
	for _, s := range holding(t) {
		d, x := fresh(t, 100)
		puts(t, x, "a", s, "b")
		has(t, crashed(t, d), "a", s, "b")
	}
}

// Nor is what lies in one that was Put and told an error, though it might be behind all others.
func Test82LiesInFailed(t *testing.T) {
	for _, s := range holding(t) {
		for fuse := 0; ; fuse++ {
			cut := false
			for _, next := range []string{"c", text(1, 80), text(2, 150), text(3, 220)} {
				for lost := range 4 {
					d, x := fresh(t, 100)
					puts(t, x, "a")
					d.Fuse(fuse)
					if _, err := x.Put(s); err == nil {
						break
					}
					cut = true
					keeps := slices.Repeat([]bool{true}, 100)
					keeps[lost] = lost == 3
					x = crashed(t, d, keeps...)
					there := began(t, x, []string{"a"}, []string{s})
					puts(t, x, next)
					began(t, crashed(t, d), append(there, next), []string{s})
				}
			}
			if !cut {
				break
			}
		}
	}
}

// model is what a store must be like behind drawn steps.
type model struct {
	d      *disk.Disk
	x      *store.Store
	there  []string // what the store tells
	sure   int      // how many of these no crash may take
	failed []string
	fused  bool
	count  map[string]int
}

// put puts a drawn text.
func (m *model) put(t *testing.T, s string) {
	t.Helper()
	place := slices.Index(m.there, s)
	key, err := m.x.Put(s)
	switch e := api.Tell(err); {
	case err == nil && key == sum.Sum(s) && place >= 0:
		m.sure = max(m.sure, place+1)
		m.count["there"]++
	case err == nil && key == sum.Sum(s) && len(s) <= api.MaxRecord:
		m.there = append(m.there, s)
		m.sure = len(m.there)
		m.count["put"]++
	case place < 0 && len(s) > api.MaxRecord && e == api.ErrLimit:
		m.count["limit"]++
	case place < 0 && e == api.ErrFull && weight(append(m.there, s)...) > half(m.d):
		m.count["full"]++
	case place < 0 && e == api.ErrDevice && m.fused:
		m.failed = append(m.failed, s)
		m.count["device"]++
	default:
		t.Fatalf("Put of %.40q, %d bytes: %x, error %v", s, len(s), key, err)
	}
	has(t, m.x, m.there...)
}

// open opens the disk again.
func (m *model) open(t *testing.T) {
	t.Helper()
	m.x = opened(t, m.d)
	perhaps := slices.Concat(m.there[m.sure:], m.failed)
	m.there = began(t, m.x, m.there[:m.sure], perhaps)
}

// step does one drawn thing.
func (m *model) step(t *testing.T, n func(int) int) {
	t.Helper()
	switch n(12) {
	case 0:
		m.d.Fuse(n(12))
		m.fused = true
	case 1:
		m.d.Crash(bits(n(1<<20), 20))
		m.fused = false
		m.open(t)
		m.sure = len(m.there)
	case 2: // without a crash: what Open finds is not sure while the disk does nothing
		m.d.Fuse(-1)
		m.fused = false
		m.open(t)
	default:
		size := []int{n(5), n(100), n(600), api.MaxRecord - n(3), api.MaxRecord + 1}[n(20)*n(20)/90]
		m.put(t, text(n(9), size))
	}
}

// Test8Drawn: what was put is there, behind any steps.
func Test8Drawn(t *testing.T) {
	n := drawn(8)
	count := map[string]int{}
	for range 1000 {
		d, x := fresh(t, 8+n(20)*n(20))
		m := &model{d: d, x: x, count: count}
		for range 60 {
			m.step(t, n)
		}
		m.d.Crash(nil)
		m.open(t)
	}
	for _, what := range []string{"there", "put", "limit", "full", "device"} {
		if count[what] < 100 {
			t.Errorf("%s: %d times: %s", what, count[what], fmt.Sprint(count))
		}
	}
}
