package catalog_test

import (
	"fmt"
	"slices"
	"strings"
	"testing"

	"foreman/api"
	"foreman/catalog"
	"foreman/sum"
)

// began asks that these versions are there, and behind them perhaps the other one, wholly: whether it is.
func (r *rig) began(t *testing.T, there []names, perhaps names) bool {
	t.Helper()
	got := r.told(t)
	if !same(got, there) && !same(got, append(slices.Clone(there), perhaps)) {
		t.Fatalf("there are %.900v, want %.900v, and perhaps %.400v", got, there, perhaps)
	}
	return len(got) > len(there)
}

// Test92Cut: wherever a Publish is cut off, and whichever of its writes are kept: what was told is there, that one wholly or not at all, and what is published behind it is there, too.
func Test92Cut(t *testing.T) {
	for _, m := range []names{nil, {"a": "y"}, {"a": "y", "b": "x", "c": "y"}} {
		for versions := range 4 {
			whole, lost := 0, 0
			for n := 0; ; n++ {
				cut := false
				for keeps := range 1 << 5 {
					r := fresh(t, 100)
					r.puts(t, "x", "y")
					var there []names
					for i := range versions {
						there = append(there, over(last(there), names{fmt.Sprint("n", i): "x"}))
						r.publishes(t, last(there))
					}
					r.d.Fuse(n)
					err := r.c.Publish(keys(m))
					if err == nil {
						break
					}
					cut = true
					tells(t, "Publish", err, api.ErrDevice)
					r.has(t, there...)
					r = crashed(t, r.d, bits(keeps, 5)...)
					if r.began(t, there, over(last(there), m)) {
						there = append(there, over(last(there), m))
						whole++
					} else {
						lost++
					}
					for _, next := range []names{{"z": "x"}, m} {
						r.publishes(t, next)
						there = append(there, over(last(there), next))
						r.has(t, there...)
						r = crashed(t, r.d)
						r.has(t, there...)
					}
				}
				if !cut {
					break
				}
			}
			if whole == 0 || lost == 0 {
				t.Errorf("%d times whole, %d times lost", whole, lost)
			}
		}
	}
}

// Cut off again and again in one place: what was told is there, and each one that was not is there wholly, or not at all.
func Test92CutAgain(t *testing.T) {
	n := drawn(92)
	for range 500 {
		r := fresh(t, 1000)
		r.puts(t, "x", "y", "z")
		var there []names
		for range 12 {
			m := names{fmt.Sprint("n", n(4)): []string{"x", "y", "z"}[n(3)]}
			next := over(last(there), m)
			r.d.Fuse(n(9))
			if err := r.c.Publish(keys(m)); err == nil {
				there = append(there, next)
				continue
			}
			r = crashed(t, r.d, bits(n(1<<8), 8)...)
			if r.began(t, there, next) {
				there = append(there, next)
			}
		}
		crashed(t, r.d, bits(n(1<<8), 8)...).has(t, there...)
	}
}

// A disk that is opened without a crash has what it told, and perhaps the one at which it told ErrDevice: what is published behind it is there.
func Test92OpenedAgain(t *testing.T) {
	for n := range 6 {
		for _, early := range []bool{true, false} {
			r := fresh(t, 100)
			r.puts(t, "y")
			r.publishes(t, names{"a": "x"})
			r.publishes(t, names{"b": "x"})
			there := r.told(t)
			r.d.Fuse(n)
			err := r.c.Publish(keys(names{"a": "y"}))
			if early {
				r.d.Fuse(-1)
			}
			r = opened(t, r.d)
			if r.began(t, there, over(last(there), names{"a": "y"})) {
				there = append(there, over(last(there), names{"a": "y"}))
			} else if err == nil {
				t.Fatalf("a version that was told is not there")
			}
			r.d.Fuse(-1)
			r.publishes(t, names{"c": "y"})
			crashed(t, r.d).has(t, append(there, over(last(there), names{"c": "y"}))...)
		}
	}
}

// A catalogue that was opened while the disk did nothing, and used behind a crash, publishes only what is there.
func Test92UsedBehindCrash(t *testing.T) {
	for n := range 8 {
		for keeps := range 1 << 4 {
			for _, m := range []names{{"c": "x"}, {"c": "new"}} {
				r := fresh(t, 100)
				r.publishes(t, names{"a": "x"})
				r.d.Fuse(n)
				r.x.Put("new")
				r.c.Publish(keys(names{"b": "new"}))
				r.d.Fuse(0)
				r = opened(t, r.d)
				r.d.Crash(bits(keeps, 4))
				there := r.c.Version()
				switch err := r.c.Publish(keys(m)); {
				case err == nil:
					there++
				case api.Tell(err) != api.ErrMissing || m["c"] == "x":
					t.Fatalf("Publish of %v: error %v", m, err)
				}
				if r.c.Version() != there {
					t.Fatalf("version %d, want %d", r.c.Version(), there)
				}
				got := crashed(t, r.d).told(t)
				if want := r.told(t); !same(got, want[:len(got)]) || len(got) < 1 {
					t.Fatalf("there are %v, want %v", got, want)
				}
			}
		}
	}
}

// Opening changes nothing.
func Test92OpenChangesNothing(t *testing.T) {
	r := fresh(t, 1000)
	for i := range 20 {
		r.publishes(t, names{fmt.Sprint("n", i%7): fmt.Sprint(i)})
	}
	there, was := r.told(t), image(r.d)
	for i := range 20 {
		opened(t, r.d).has(t, there...)
		crashed(t, r.d, bits(i, 5)...).has(t, there...)
	}
	if !slices.Equal(image(r.d), was) {
		t.Errorf("Open wrote to the disk")
	}
}

// Many versions are there, in their order.
func Test92Many(t *testing.T) {
	r := fresh(t, api.MaxDisk)
	r.puts(t, "0", "1", "2")
	var want []names
	for i := range 3000 {
		m := names{"a": fmt.Sprint(i % 3)}
		tells(t, "Publish", r.c.Publish(keys(m)), api.OK)
		want = append(want, m)
	}
	r.has(t, want...)
	crashed(t, r.d).has(t, want...)
}

// Records that look like versions are none, and one that is there ahead of its version is no matter.
func Test92LooksLikeVersion(t *testing.T) {
	r := fresh(t, 400)
	for i := range 5 {
		r.publishes(t, names{fmt.Sprint("n", i%2): fmt.Sprint(i)})
	}
	want := r.told(t)
	other := fresh(t, 400)
	for _, key := range slices.Backward(r.x.Keys()) {
		s, _ := r.x.Get(key)
		other.puts(t, s)
	}
	other.has(t)
	other = crashed(t, other.d)
	other.has(t)
	for i := range 5 {
		other.publishes(t, names{fmt.Sprint("n", i%2): fmt.Sprint(i)})
	}
	other.has(t, want...)
	crashed(t, other.d).has(t, want...)
}

// Test92Spoilt: what the last version leads to is not there.
func Test92Spoilt(t *testing.T) {
	for versions := range 4 {
		for _, s := range []string{"", "spoilt", strings.Repeat("\xff", api.Sector), strings.Repeat("H", api.Sector)} {
			r := fresh(t, 100)
			for range versions {
				r.publishes(t, names{"a": "x"})
			}
			sectors := image(r.d)
			for at := 2; at < len(sectors); at++ {
				sectors[at] = s
			}
			d := laid(t, sectors)
			if versions > 0 {
				spoilt(t, fmt.Sprint(versions, " versions without records"), d)
				spoilt(t, "again", d)
			} else {
				opened(t, d).has(t)
			}
		}
	}
}

// Spoil one sector: all that was told is there, or ErrSpoilt is told; never something else.
func Test92SpoiltSector(t *testing.T) {
	for _, versions := range []int{6, 7} {
		r := fresh(t, 60)
		for i := range versions {
			r.publishes(t, names{"a": fmt.Sprint("text", i)})
		}
		want, sectors := r.told(t), image(r.d)
		all := 0
		for at := range sectors {
			for _, place := range []int{0, 1, 23, 24, 40, 55, 56, 57, 60, 63} {
				b := []byte(sectors[at])
				b[place] ^= 1
				spoil := slices.Clone(sectors)
				spoil[at] = string(b)
				d := laid(t, spoil)
				if _, _, err := catalog.Open(d); err == nil {
					all++
					opened(t, d).has(t, want...)
				} else {
					spoilt(t, fmt.Sprint("sector ", at), d)
				}
			}
		}
		if all == 0 || all == len(sectors)*10 {
			t.Errorf("%d times all is there", all)
		}
	}
}

// A version of which one record is missing is spoilt, whichever one it is: that of an earlier version, or one to which a name leads.
func Test92SpoiltRecord(t *testing.T) {
	r := fresh(t, 100)
	for i := range 4 {
		r.publishes(t, names{"a": fmt.Sprint("text", i)})
	}
	for leave := range r.x.Keys() {
		other := fresh(t, 100)
		for i, key := range r.x.Keys() {
			s, _ := r.x.Get(key)
			if i != leave {
				other.puts(t, s)
			}
		}
		spoilt(t, fmt.Sprint("without record ", leave), laid(t, append(image(r.d)[:2], image(other.d)[2:]...)))
	}
}

// Sectors 0 and 1 that lead to a record which is no version are spoilt.
func Test92SpoiltRoot(t *testing.T) {
	texts := []string{"", "x", strings.Repeat("x", 32), strings.Repeat("x", 33), strings.Repeat("x", 33) + " ", strings.Repeat("x ", 200), sum.Sum("x") + "a " + sum.Sum("x")}
	for _, text := range texts {
		for number := range 3 {
			r := fresh(t, 100)
			r.puts(t, "x", text)
			rest := sum.Sum(text) + fmt.Sprint(number)
			tells(t, "Write", r.d.Write(number%2, sum.Sum(rest)[:24]+rest), api.OK)
			spoilt(t, fmt.Sprintf("version %d of %.40q", number, text), r.d)
		}
	}
}

// TestP1: whatever lies on a disk, Open ends, and what is published then is there.
func TestP1(t *testing.T) {
	n := drawn(1)
	r := fresh(t, 60)
	for i := range 6 {
		r.publishes(t, names{fmt.Sprint("n", i%4): fmt.Sprint("text", i)})
	}
	sectors := image(r.d)
	count := map[api.Errno]int{}
	for range 4000 {
		mixed := slices.Clone(sectors)[:8+n(53)]
		for range n(4) {
			b := []byte(sectors[n(len(sectors))])
			b[n(len(b))] = byte(n(256))
			mixed[n(min(n(20)+1, len(mixed)))] = string(b)
		}
		d := laid(t, mixed)
		_, _, err := catalog.Open(d)
		count[api.Tell(err)]++
		if err != nil {
			spoilt(t, "mixed", d)
			continue
		}
		r := opened(t, d)
		there := r.told(t)
		if _, err := r.x.Put("put"); err != nil || r.c.Publish(keys(names{"p": "put"})) != nil {
			continue
		}
		crashed(t, d).has(t, append(there, over(last(there), names{"p": "put"}))...)
	}
	if count[api.OK] < 200 || count[api.ErrSpoilt] < 200 {
		t.Errorf("%v", count)
	}
}

// model is what a catalogue must be like behind drawn steps.
type model struct {
	*rig
	there   []names
	perhaps names // the version at which ErrDevice was told
	failed  bool
	fused   bool
	count   map[string]int
}

// publish publishes drawn names.
func (m *model) publish(t *testing.T, n func(int) int) {
	t.Helper()
	l := names{}
	for range []int{0, 1, 1, 2, 3, 60}[n(6)] {
		l[fmt.Sprint([]string{"a", "b"}[n(2)], n(120))] = fmt.Sprint("r", n(9))
	}
	if n(10) == 0 {
		l["A"] = "r0"
	}
	if n(10) == 0 {
		l["c"] = fmt.Sprint("r", n(12))
	}
	want := m.wrong(l)
	switch err := m.c.Publish(keys(l)); {
	case m.failed:
		tells(t, "Publish", err, api.ErrState)
		m.count["state"]++
	case len(want) > 0:
		if !slices.Contains(want, api.Tell(err)) {
			t.Fatalf("Publish of %v: error %v, want one of %v", l, err, want)
		}
		m.count[fmt.Sprint(api.Tell(err))]++
	case err == nil:
		m.there = append(m.there, over(last(m.there), l))
		m.count["one more"]++
	case m.fused && api.Tell(err) == api.ErrDevice:
		m.failed, m.perhaps = true, over(last(m.there), l)
		m.count["device"]++
	case api.Tell(err) == api.ErrFull && m.d.Size() < 2000:
		m.count["full"]++
	default:
		t.Fatalf("Publish of %v: error %v", l, err)
	}
	m.has(t, m.there...)
}

// wrong are the errors of which one must be told.
func (m *model) wrong(l names) []api.Errno {
	var want []api.Errno
	for name, s := range l {
		if name == "A" {
			want = append(want, api.ErrName)
		} else if _, err := m.x.Get(sum.Sum(s)); err != nil {
			want = append(want, api.ErrMissing)
		}
	}
	if len(want) == 0 && len(over(last(m.there), l)) > api.MaxNames {
		want = append(want, api.ErrLimit)
	}
	return want
}

// open opens the disk again.
func (m *model) open(t *testing.T) {
	t.Helper()
	m.rig = opened(t, m.d)
	if m.failed && m.began(t, m.there, m.perhaps) {
		m.there = append(m.there, m.perhaps)
		m.count["wholly"]++
	} else if m.failed {
		m.count["not at all"]++
	}
	m.failed, m.fused = false, false
	m.has(t, m.there...)
}

// Test9Drawn: all or nothing, behind any steps.
func Test9Drawn(t *testing.T) {
	n := drawn(9)
	count := map[string]int{}
	for range 400 {
		m := &model{rig: fresh(t, []int{100, 1000, 4000}[n(3)]), count: count}
		m.puts(t, "r0", "r1", "r2", "r3", "r4", "r5", "r6", "r7", "r8")
		for range 40 {
			switch n(8) {
			case 0:
				almost := len(last(m.there))*43/63 + n(8) // as many as one version more takes, or some less
				m.d.Fuse([]int{n(10), almost}[n(2)])
				m.fused = true
			case 1:
				m.d.Crash(bits(n(1<<20), 20))
				m.open(t)
			case 2:
				m.d.Fuse(-1)
				m.open(t)
			case 3:
				m.x.Put(fmt.Sprint("r", n(12)))
			default:
				m.publish(t, n)
			}
		}
		m.d.Crash(nil)
		m.open(t)
	}
	for _, what := range []string{"state", fmt.Sprint(api.ErrName), fmt.Sprint(api.ErrMissing), fmt.Sprint(api.ErrLimit), "one more", "device", "full", "wholly", "not at all"} {
		if count[what] < 20 {
			t.Errorf("%s: %d times: %v", what, count[what], count)
		}
	}
}
