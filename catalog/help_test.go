package catalog_test

import (
	"errors"
	"fmt"
	"maps"
	"strings"
	"testing"

	"foreman/api"
	"foreman/catalog"
	"foreman/disk"
	"foreman/plain"
	"foreman/store"
	"foreman/sum"
)

// names are names, and the texts of the records to which they lead.
type names map[string]string

// rig is a disk, its catalogue, and its store.
type rig struct {
	d *disk.Disk
	c *catalog.Catalog
	x *store.Store
}

// made is a disk of so many sectors.
func made(t *testing.T, sectors int) *disk.Disk {
	t.Helper()
	d, err := disk.New(sectors)
	if err != nil {
		t.Fatalf("New of %d: %v", sectors, err)
	}
	return d
}

// opened is what lies on a disk.
func opened(t *testing.T, d *disk.Disk) *rig {
	t.Helper()
	c, x, err := catalog.Open(d)
	if err != nil || c == nil || x == nil {
		t.Fatalf("Open: %v, %v, error %v", c, x, err)
	}
	return &rig{d, c, x}
}

// fresh is a disk of so many sectors, and what lies on it: nothing.
func fresh(t *testing.T, sectors int) *rig {
	t.Helper()
	return opened(t, made(t, sectors))
}

// crashed is what lies on a disk behind a crash that keeps these writes.
func crashed(t *testing.T, d *disk.Disk, keeps ...bool) *rig {
	t.Helper()
	d.Crash(keeps)
	return opened(t, d)
}

// tells asks for an error, without a place.
func tells(t *testing.T, what string, err error, want api.Errno) {
	t.Helper()
	if e, at := plain.Place(err); e != want || at != -1 {
		t.Errorf("%s: error %d at %d, want %d", what, e, at, want)
	}
	var a *api.At
	if errors.As(err, &a) {
		t.Errorf("%s: a place in %v", what, err)
	}
}

// puts puts records, and asks that it is done.
func (r *rig) puts(t *testing.T, texts ...string) {
	t.Helper()
	for _, s := range texts {
		if _, err := r.x.Put(s); err != nil {
			t.Fatalf("Put of %.40q: error %v", s, err)
		}
	}
}

// keys are names, and the sums of their texts.
func keys(m names) map[string]string {
	l := map[string]string{}
	for name, s := range m {
		l[name] = sum.Sum(s)
	}
	return l
}

// publishes puts all that names lead to, publishes them, and asks that it is one version more.
func (r *rig) publishes(t *testing.T, m names) {
	t.Helper()
	for _, s := range m {
		r.puts(t, s)
	}
	was := r.c.Version()
	if err := r.c.Publish(keys(m)); err != nil || r.c.Version() != was+1 {
		t.Fatalf("Publish of %v: error %v; version %d behind %d", m, err, r.c.Version(), was)
	}
}

// fails publishes keys, and asks that it tells an error, and changes nothing.
func (r *rig) fails(t *testing.T, what string, m map[string]string, want api.Errno) {
	t.Helper()
	was := r.told(t)
	tells(t, what, r.c.Publish(m), want)
	r.has(t, was...)
}

// told are all versions, from 1 on, as texts, each name with its record.
func (r *rig) told(t *testing.T) []names {
	t.Helper()
	var l []names
	for n := range r.c.Version() + 1 {
		m, err := r.c.At(n)
		if err != nil || n == 0 && len(m) > 0 {
			t.Fatalf("At of %d: %d names, error %v", n, len(m), err)
		}
		told := names{}
		for name, key := range m {
			s, err := r.x.Get(key)
			if err != nil {
				t.Fatalf("version %d: %s leads to %x: error %v", n, name, key, err)
			}
			told[name] = s
		}
		if n > 0 {
			l = append(l, told)
		}
	}
	for _, n := range []int{-1, r.c.Version() + 1} {
		m, err := r.c.At(n)
		tells(t, fmt.Sprint("At of ", n), err, api.ErrMissing)
		if m != nil {
			t.Errorf("At of %d: %v beside its error", n, m)
		}
	}
	return l
}

// same says whether versions are the same.
func same(a, b []names) bool {
	if len(a) != len(b) {
		return false
	}
	for i := range a {
		if !maps.Equal(a[i], b[i]) {
			return false
		}
	}
	return true
}

// has asks that just these versions are there.
func (r *rig) has(t *testing.T, want ...names) {
	t.Helper()
	if got := r.told(t); !same(got, want) {
		t.Fatalf("there are %.900v, want %.900v", got, want)
	}
}

// over are names, and others in their stead.
func over(a, b names) names {
	m := maps.Clone(a)
	if m == nil {
		m = names{}
	}
	maps.Copy(m, b)
	return m
}

// last is the last of these versions.
func last(l []names) names {
	if len(l) == 0 {
		return nil
	}
	return l[len(l)-1]
}

// many are so many names, from one number on, that all lead to one record.
func many(from, count int, s string) names {
	m := names{}
	for i := range count {
		m[fmt.Sprint("name", from+i)] = s
	}
	return m
}

// bits are the lowest bits of a number, as many as are told.
func bits(n, count int) []bool {
	var l []bool
	for i := range count {
		l = append(l, n>>i&1 == 1)
	}
	return l
}

// drawn gives numbers that look drawn, the same each time.
func drawn(seed uint64) func(most int) int {
	return func(most int) int {
		seed = seed*6364136223846793005 + 1442695040888963407
		return int((seed >> 33) % uint64(most))
	}
}

// image are all sectors of a disk.
func image(d *disk.Disk) []string {
	var l []string
	for at := range d.Size() {
		s, _ := d.Read(at)
		l = append(l, s)
	}
	return l
}

// laid is a disk with these sectors.
func laid(t *testing.T, sectors []string) *disk.Disk {
	t.Helper()
	d := made(t, len(sectors))
	for at, s := range sectors {
		tells(t, "Write", d.Write(at, s), api.OK)
	}
	tells(t, "Sync", d.Sync(), api.OK)
	return d
}

// spoilt asks that Open tells ErrSpoilt, and nothing else.
func spoilt(t *testing.T, what string, d *disk.Disk) {
	t.Helper()
	c, x, err := catalog.Open(d)
	tells(t, what, err, api.ErrSpoilt)
	if c != nil || x != nil {
		t.Errorf("%s: %v, %v beside its error", what, c, x)
	}
}

// nothing is a sector in which all is 0.
var nothing = strings.Repeat("\x00", api.Sector)
