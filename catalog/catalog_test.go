package catalog_test

import (
	"fmt"
	"math"
	"slices"
	"strings"
	"testing"

	"foreman/api"
	"foreman/sum"
)

// Test91Nothing: at first there is no version, and version 0 has no names.
func Test91Nothing(t *testing.T) {
	for _, sectors := range []int{8, 9, 100, api.MaxDisk} {
		r := fresh(t, sectors)
		r.has(t)
		if len(r.x.Keys()) != 0 {
			t.Errorf("there are records: %x", r.x.Keys())
		}
		crashed(t, r.d).has(t)
		for _, n := range []int{-1, 1, 2, math.MinInt, math.MaxInt} {
			m, err := r.c.At(n)
			tells(t, fmt.Sprint("At of ", n), err, api.ErrMissing)
			if m != nil {
				t.Errorf("At of %d: %v", n, m)
			}
		}
	}
}

// Test91Publish: a version has all names of the last one, and those that are told in their stead; the ones ahead stay as they were.
func Test91Publish(t *testing.T) {
	r := fresh(t, 400)
	r.publishes(t, names{"a": "one"})
	r.publishes(t, names{"b": "two", "abcdefghi0": ""})
	r.publishes(t, names{"a": "three"})
	r.publishes(t, names{"a": "one", "b": "one"})
	want := []names{
		{"a": "one"},
		{"a": "one", "b": "two", "abcdefghi0": ""},
		{"a": "three", "b": "two", "abcdefghi0": ""},
		{"a": "one", "b": "one", "abcdefghi0": ""},
	}
	r.has(t, want...)
	opened(t, r.d).has(t, want...)
	r = crashed(t, r.d)
	r.has(t, want...)
	r.publishes(t, names{"c": "two"})
	r.has(t, append(want, names{"a": "one", "b": "one", "c": "two", "abcdefghi0": ""})...)
}

// A version of nothing new is one more, too, also the first one, and also where it was just so before.
func Test91NothingNew(t *testing.T) {
	r := fresh(t, 400)
	want := []names{{}, {}, {"a": "x"}, {"a": "x"}, {"a": "x"}, {"a": "y"}, {"a": "x"}, {"a": "x"}}
	r.puts(t, "x", "y")
	for _, m := range []map[string]string{nil, {}, keys(names{"a": "x"}), nil, keys(names{"a": "x"}), keys(names{"a": "y"}), keys(names{"a": "x"}), {}} {
		tells(t, "Publish", r.c.Publish(m), api.OK)
	}
	r.has(t, want...)
	crashed(t, r.d).has(t, want...)
}

// A name may lead to any record, also to one in which a version lies, and to one that an earlier store put.
func Test91AnyRecord(t *testing.T) {
	r := fresh(t, 600)
	r.publishes(t, names{"a": "x", "b": strings.Repeat("\x00", 3000)})
	r = crashed(t, r.d)
	m := map[string]string{}
	want := names{}
	for i, key := range r.x.Keys() {
		name := fmt.Sprint("k", i)
		m[name] = key
		want[name], _ = r.x.Get(key)
	}
	tells(t, "Publish", r.c.Publish(m), api.OK)
	r.has(t, r.told(t)[0], over(r.told(t)[0], want))
	crashed(t, r.d).has(t, r.told(t)...)
}

// Test91Name: what is no Name.
func Test91Name(t *testing.T) {
	r := fresh(t, 400)
	r.publishes(t, names{"a": "x"})
	for _, name := range []string{"", "A", "0", "0a", "a b", " a", "a ", "a\x00", "a\n", "-", "_", "a_b", "ä", "abcdefghijk", strings.Repeat("a", 100000)} {
		what := fmt.Sprintf("%.20q", name)
		r.fails(t, what, keys(names{name: "x"}), api.ErrName)
		r.fails(t, what+" of no record", map[string]string{name: "none"}, api.ErrName)
		r.fails(t, what+" beside others", keys(names{name: "x", "b": "x", "zz": "x"}), api.ErrName)
	}
	for _, name := range []string{"a", "z", "a0", "abcdefghij", "z123456789"} {
		r.publishes(t, names{name: "x"})
	}
	crashed(t, r.d).has(t, r.told(t)...)
}

// Test91Missing: a key that has no record.
func Test91Missing(t *testing.T) {
	r := fresh(t, 400)
	key := sum.Sum("x")
	r.fails(t, "nothing is there", map[string]string{"a": key}, api.ErrMissing)
	r.publishes(t, names{"a": "x"})
	for _, k := range []string{"", "x", "none", sum.Sum("y"), key[:31], key + "\x00", sum.Hex(key), strings.Repeat("\x00", 32)} {
		r.fails(t, fmt.Sprintf("%q", k), map[string]string{"a": k}, api.ErrMissing)
		r.fails(t, fmt.Sprintf("%q beside others", k), map[string]string{"a": key, "b": k, "c": key}, api.ErrMissing)
	}
	r.publishes(t, names{"b": "y"})
	crashed(t, r.d).has(t, names{"a": "x"}, names{"a": "x", "b": "y"})
}

// A record whose Put told an error is none.
func Test91NotPut(t *testing.T) {
	r := fresh(t, 400)
	r.publishes(t, names{"a": "x"})
	for n := range 2 {
		r.d.Fuse(n)
		_, err := r.x.Put("y")
		tells(t, "Put", err, api.ErrDevice)
		r.d.Fuse(-1)
		r.fails(t, "of no record", keys(names{"b": "y"}), api.ErrMissing)
	}
	r.publishes(t, names{"b": "z"})
	crashed(t, r.d).has(t, names{"a": "x"}, names{"a": "x", "b": "z"})
}

// Of several names that are wrong one is told, the same each time, whichever.
func Test91Whichever(t *testing.T) {
	m := map[string]string{}
	for i := range 40 {
		m[fmt.Sprint([]string{"a", "A"}[i%2], i)] = "none"
	}
	r := fresh(t, 100)
	want := api.Tell(r.c.Publish(m))
	if want != api.ErrName && want != api.ErrMissing {
		t.Fatalf("error %d", want)
	}
	for range 100 {
		r.fails(t, "wrong names", m, want)
	}
}

// Test91Limit: MaxNames names, those of the last version with them, are enough.
func Test91Limit(t *testing.T) {
	r := fresh(t, 2000)
	r.puts(t, "x", "y")
	r.fails(t, "all at once", keys(many(0, api.MaxNames+1, "x")), api.ErrLimit)
	r.fails(t, "far more", keys(many(0, 100*api.MaxNames, "x")), api.ErrLimit)
	most := many(100000, api.MaxNames, "x")
	r.publishes(t, most)
	r.fails(t, "one more", keys(names{"a": "x"}), api.ErrLimit)
	r.fails(t, "one more, among others", keys(over(many(100000, 20, "y"), names{"a": "x"})), api.ErrLimit)
	r.fails(t, "no Name, and too many", keys(over(many(0, 200, "x"), names{"A": "x"})), api.ErrName)
	r.fails(t, "no record, and too many", keys(over(many(0, 200, "x"), names{"zz": "none"})), api.ErrMissing)
	r.publishes(t, many(100000, api.MaxNames, "y"))
	r.publishes(t, many(100007, 1, "x"))
	r.publishes(t, nil)
	r = crashed(t, r.d)
	y := many(100000, api.MaxNames, "y")
	r.has(t, most, y, over(y, many(100007, 1, "x")), over(y, many(100007, 1, "x")))
	r.fails(t, "one more", keys(names{"a": "x"}), api.ErrLimit)
}

// The names of a version come to MaxNames one by one, too.
func Test91LimitByAndBy(t *testing.T) {
	r := fresh(t, api.MaxDisk)
	var want []names
	for i := range api.MaxNames {
		m := many(1000+i, 1, "x")
		r.publishes(t, m)
		want = append(want, over(last(want), m))
	}
	r.fails(t, "one more", keys(names{"a": "x"}), api.ErrLimit)
	crashed(t, r.d).has(t, want...)
}

// Test91Full: where there is no room nothing is changed, and it is not the disk's fault: what has room is published behind it.
func Test91Full(t *testing.T) {
	for _, sectors := range []int{8, 9, 10, 20, 51} {
		r := fresh(t, sectors)
		r.puts(t, "x")
		var want []names
		for r.c.Publish(keys(names{"a": "x"})) == nil {
			want = append(want, names{"a": "x"})
		}
		if len(want) < 2 || len(want) > sectors {
			t.Errorf("%d sectors have room for %d versions", sectors, len(want))
		}
		for range 3 {
			r.fails(t, "full", keys(names{"a": "x"}), api.ErrFull)
			r.fails(t, "full, and no record", map[string]string{"a": "none"}, api.ErrMissing)
			r.fails(t, "full, and no Name", keys(names{"A": "x"}), api.ErrName)
			r.fails(t, "full, and too many", keys(many(0, 200, "x")), api.ErrLimit)
		}
		r.d.Fuse(0)
		r.fails(t, "full, and a spent fuse", keys(names{"a": "x"}), api.ErrFull)
		r.has(t, want...)
		r = crashed(t, r.d)
		r.has(t, want...)
		r.fails(t, "full behind a crash", keys(names{"a": "x"}), api.ErrFull)
	}
	r := fresh(t, 60)
	r.publishes(t, names{"a": "x"})
	r.fails(t, "too great", keys(many(0, 100, "x")), api.ErrFull)
	r.publishes(t, names{"b": "x"})
	crashed(t, r.d).has(t, names{"a": "x"}, names{"a": "x", "b": "x"})
}

// There is room while all records, 200 bytes more for each, and for each version 200 bytes, and 100 for each of its names, are at most half of the disk's bytes.
func Test91Room(t *testing.T) {
	for _, sectors := range []int{8, 13, 14, 20, 33, 100, 1000, 5000} {
		for _, step := range []int{0, 1, 2, 7, 150} {
			r := fresh(t, sectors)
			var want []names
			left := sectors*api.Sector/2 - len("x") - 200
			for count := min(step, api.MaxNames); left >= 200+100*count; count = min(count+step, api.MaxNames) {
				r.publishes(t, many(100000, count, "x"))
				want = append(want, many(100000, count, "x"))
				left -= 200 + 100*count
			}
			crashed(t, r.d).has(t, want...)
		}
	}
}

// Test91State: behind an ErrDevice that Publish told it tells ErrState, ahead of all else and whatever the disk does, until the disk is opened again.
func Test91State(t *testing.T) {
	for n := 0; ; n++ {
		r := fresh(t, 400)
		r.publishes(t, names{"a": "x"})
		r.publishes(t, names{"b": "y"})
		r.d.Fuse(n)
		if r.c.Publish(keys(names{"a": "y"})) == nil {
			if n < 3 {
				t.Errorf("a version came of %d writes and syncs", n)
			}
			break
		}
		want := []names{{"a": "x"}, {"a": "x", "b": "y"}}
		r.has(t, want...)
		again := func(what string) {
			t.Helper()
			r.fails(t, what, keys(names{"a": "y"}), api.ErrState)
			r.fails(t, what, nil, api.ErrState)
			r.fails(t, what+", no Name", keys(names{"A": "y"}), api.ErrState)
			r.fails(t, what+", no record", map[string]string{"a": "none"}, api.ErrState)
			r.fails(t, what+", too many", keys(many(0, 200, "x")), api.ErrState)
		}
		again("the fuse is spent")
		r.d.Fuse(-1)
		again("there is no fuse")
		r.puts(t, "z")
		again("the store put something")
		r.d.Crash(nil)
		again("behind a crash")
		r.has(t, want...)
		r = opened(t, r.d)
		r.publishes(t, names{"c": "x"})
	}
}

// Only an ErrDevice is remembered, and only one that the catalogue told: not those of its store, nor of its disk.
func Test91NoState(t *testing.T) {
	r := fresh(t, 60)
	r.puts(t, "x")
	r.fails(t, "no Name", keys(names{"A": "x"}), api.ErrName)
	r.fails(t, "no record", keys(names{"a": "y"}), api.ErrMissing)
	r.fails(t, "too many", keys(many(0, 200, "x")), api.ErrLimit)
	r.fails(t, "full", keys(many(0, 150, "x")), api.ErrFull)
	r.d.Fuse(0)
	r.fails(t, "no Name, and a spent fuse", keys(names{"A": "x"}), api.ErrName)
	_, err := r.x.Put("y")
	tells(t, "Put", err, api.ErrDevice)
	tells(t, "Sync", r.d.Sync(), api.ErrDevice)
	r.d.Fuse(-1)
	r.publishes(t, names{"a": "x"})
	crashed(t, r.d).has(t, names{"a": "x"})
}

// Test91Device: a spent fuse is told, behind all that is wrong with what is handed in.
func Test91Device(t *testing.T) {
	r := fresh(t, 400)
	r.publishes(t, names{"a": "x"})
	r.d.Fuse(0)
	r.fails(t, "no Name", keys(names{"A": "x"}), api.ErrName)
	r.fails(t, "no record", keys(names{"a": "y"}), api.ErrMissing)
	r.fails(t, "too many", keys(many(0, 200, "x")), api.ErrLimit)
	r.fails(t, "spent", keys(names{"a": "x"}), api.ErrDevice)
	r.fails(t, "spent", keys(names{"a": "x"}), api.ErrState)
	crashed(t, r.d).has(t, names{"a": "x"})
}

// A catalogue lies in sectors 0 and 1, and in records of its store: all others are as the store leaves them.
func Test91Sectors(t *testing.T) {
	r := fresh(t, 400)
	for i := range 9 {
		r.publishes(t, names{fmt.Sprint("n", i%4): fmt.Sprint(i)})
	}
	other := fresh(t, 400)
	for _, key := range r.x.Keys() {
		s, _ := r.x.Get(key)
		other.puts(t, s)
	}
	got, want := image(r.d), image(other.d)
	if !slices.Equal(got[2:], want[2:]) {
		t.Errorf("something but records lies behind sector 1")
	}
	if want[0] != nothing || want[1] != nothing {
		t.Errorf("a catalogue that tells no version writes to its sectors")
	}
	other.has(t)
}

// The same calls leave the same on a disk, in whichever order a map is gone through.
func Test91Same(t *testing.T) {
	var want []string
	for i := range 20 {
		r := fresh(t, 400)
		r.puts(t, "x")
		r.publishes(t, many(0, 30, "x"))
		r.publishes(t, many(20, 30, "x"))
		if got := image(r.d); i == 0 {
			want = got
		} else if !slices.Equal(got, want) {
			t.Fatalf("the disk is not the same")
		}
	}
}

// TestP4: what is handed in is neither changed nor kept, and what is told is the caller's.
func TestP4(t *testing.T) {
	r, other := fresh(t, 400), fresh(t, 400)
	r.puts(t, "x", "y")
	m := keys(names{"a": "x"})
	tells(t, "Publish", r.c.Publish(m), api.OK)
	if len(m) != 1 || m["a"] != sum.Sum("x") {
		t.Errorf("what was handed in is %v", m)
	}
	m["a"], m["b"] = sum.Sum("y"), "none"
	r.has(t, names{"a": "x"})
	tells(t, "Publish", r.c.Publish(keys(names{"b": "y"})), api.OK)
	for n := range 3 {
		told, err := r.c.At(n)
		if err != nil || told == nil {
			t.Fatalf("At of %d: %v, error %v", n, told, err)
		}
		told["a"], told["z"] = "none", "none"
		delete(told, "b")
		r.has(t, names{"a": "x"}, names{"a": "x", "b": "y"})
	}
	crashed(t, r.d).has(t, names{"a": "x"}, names{"a": "x", "b": "y"})
	other.has(t)
}
