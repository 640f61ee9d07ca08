package engine_test

import (
	"errors"
	"fmt"
	"maps"
	"slices"
	"strings"
	"testing"

	"foreman/api"
	"foreman/disk"
	"foreman/engine"
	"foreman/plain"
	"foreman/table"
)

// tables are names, and the texts of their tables.
type tables map[string]string

// rig is a disk, and its engine.
type rig struct {
	d *disk.Disk
	e *engine.Engine
}

// made is a disk of so many sectors.
func made(t *testing.T, sectors int) *disk.Disk {
	t.Helper()
	d, err := disk.New(sectors)
	if err != nil {
		t.Fatalf("New of %d: %v", sectors, err)
	}
	return d
}

// opened is an engine of what lies on a disk.
func opened(t *testing.T, d *disk.Disk) *rig {
	t.Helper()
	e, err := engine.Open(d)
	if err != nil || e == nil {
		t.Fatalf("Open: %v, error %v", e, err)
	}
	return &rig{d, e}
}

// fresh is an engine of a disk of so many sectors, on which nothing lies.
func fresh(t *testing.T, sectors int) *rig {
	t.Helper()
	return opened(t, made(t, sectors))
}

// crashed is an engine of what lies on a disk behind a crash that keeps these writes.
func crashed(t *testing.T, d *disk.Disk, keeps ...bool) *rig {
	t.Helper()
	d.Crash(keeps)
	return opened(t, d)
}

// tells asks for an error, without a place.
func tells(t *testing.T, what string, err error, want api.Errno) {
	t.Helper()
	if e, at := plain.Place(err); e != want || at != -1 {
		t.Fatalf("%s: error %d at %d, want %d", what, e, at, want)
	}
	var a *api.At
	if errors.As(err, &a) {
		t.Fatalf("%s: a place in %v", what, err)
	}
}

// lines is a table's text, of one in which a bar stands for each line feed but the last one.
func lines(s string) string { return strings.ReplaceAll(s, "|", "\n") + "\n" }

// tab is the table of such a text.
func tab(t *testing.T, s string) api.Table {
	t.Helper()
	x, err := table.Parse(lines(s))
	if err != nil {
		t.Fatalf("%q: error %v", s, err)
	}
	return x
}

// written is a table's text, as tab takes it.
func written(t *testing.T, x api.Table) string {
	t.Helper()
	s, err := table.Print(x)
	if err != nil {
		t.Fatalf("Print of %v: error %v", x, err)
	}
	return strings.ReplaceAll(strings.TrimSuffix(s, "\n"), "\n", "|")
}

// loads loads a table, and asks that it is one version more.
func (r *rig) loads(t *testing.T, name, s string) {
	t.Helper()
	was := r.e.Version()
	tells(t, "Load of "+name, r.e.Load(name, tab(t, s)), api.OK)
	if r.e.Version() != was+1 {
		t.Fatalf("Load of %s: version %d behind %d", name, r.e.Version(), was)
	}
}

// runs runs a flow, and asks that it is one version more, by so many jobs that were done, and known.
func (r *rig) runs(t *testing.T, s string, done, known int, picks ...int) {
	t.Helper()
	want := engine.Report{Version: r.e.Version() + 1, Done: done, Known: known, Job: -1}
	if got := r.e.Run(s, picks); got != want || r.e.Version() != want.Version {
		t.Fatalf("%s by %v: %+v, version %d, want %+v", s, picks, got, r.e.Version(), want)
	}
}

// fails runs a flow, and asks that it tells an error, and no version more.
func (r *rig) fails(t *testing.T, s string, want api.Errno, job int, picks ...int) {
	t.Helper()
	was := r.told(t)
	if got := r.e.Run(s, picks); got != (engine.Report{Err: want, Job: job}) {
		t.Fatalf("%s by %v: %+v, want error %d in %d", s, picks, got, want, job)
	}
	r.has(t, was...)
}

// told are all versions, from 1 on.
func (r *rig) told(t *testing.T) []tables {
	t.Helper()
	var l []tables
	for n := range r.e.Version() + 1 {
		names, err := r.e.Names(n)
		if err != nil || !slices.IsSorted(names) || n == 0 && len(names) > 0 {
			t.Fatalf("Names of %d: %q, error %v", n, names, err)
		}
		told := tables{}
		for _, name := range names {
			x, err := r.e.Table(name, n)
			tells(t, fmt.Sprint("Table of ", name, ", ", n), err, api.OK)
			told[name] = written(t, x)
		}
		if len(told) != len(names) {
			t.Fatalf("Names of %d: %q", n, names)
		}
		if n > 0 {
			l = append(l, told)
		}
	}
	for _, n := range []int{-1, r.e.Version() + 1} {
		r.missing(t, n)
	}
	return l
}

// missing asks that there is no such version.
func (r *rig) missing(t *testing.T, n int) {
	t.Helper()
	names, err := r.e.Names(n)
	tells(t, fmt.Sprint("Names of ", n), err, api.ErrMissing)
	if names != nil {
		t.Errorf("Names of %d: %q beside its error", n, names)
	}
	r.noTable(t, "p", n)
}

// noTable asks that a version has no such name.
func (r *rig) noTable(t *testing.T, name string, n int) {
	t.Helper()
	x, err := r.e.Table(name, n)
	tells(t, fmt.Sprintf("Table of %.20q, %d", name, n), err, api.ErrMissing)
	if x.Cols != nil || x.Rows != nil {
		t.Errorf("Table of %.20q, %d: %v beside its error", name, n, x)
	}
}

// same says whether versions are the same.
func same(a, b []tables) bool {
	return slices.EqualFunc(a, b, func(x, y tables) bool { return maps.Equal(x, y) })
}

// has asks that just these versions are there.
func (r *rig) has(t *testing.T, want ...tables) {
	t.Helper()
	if got := r.told(t); !same(got, want) {
		t.Fatalf("there are %.900v, want %.900v", got, want)
	}
}

// over are names, and others in their stead.
func over(a, b tables) tables {
	m := tables{}
	maps.Copy(m, a)
	maps.Copy(m, b)
	return m
}

// last is the last of these versions.
func last(l []tables) tables {
	if len(l) == 0 {
		return nil
	}
	return l[len(l)-1]
}

// bits are the lowest bits of a number, as many as are told.
func bits(n, count int) []bool {
	var l []bool
	for i := range count {
		l = append(l, n>>i&1 == 1)
	}
	return l
}

// drawn gives numbers that look drawn, the same each time.
func drawn(seed uint64) func(most int) int {
	return func(most int) int {
		seed = seed*6364136223846793005 + 1442695040888963407
		return int((seed >> 33) % uint64(most))
	}
}

// image are all sectors of a disk.
func image(d *disk.Disk) []string {
	var l []string
	for at := range d.Size() {
		s, _ := d.Read(at)
		l = append(l, s)
	}
	return l
}

// laid is a disk with these sectors.
func laid(t *testing.T, sectors []string) *disk.Disk {
	t.Helper()
	d := made(t, len(sectors))
	for at, s := range sectors {
		tells(t, "Write", d.Write(at, s), api.OK)
	}
	tells(t, "Sync", d.Sync(), api.OK)
	return d
}

// greatest is the longest table that may be: its words are all of this letter.
func greatest(letter string) api.Table {
	var x api.Table
	var row []api.Value
	for i := range api.MaxCols {
		x.Cols = append(x.Cols, api.Column{Name: fmt.Sprint("abcdefghi", i), Kind: api.Text})
		row = append(row, api.Value{Kind: api.Text, Word: strings.Repeat(letter, api.MaxWord)})
	}
	for range api.MaxRows {
		x.Rows = append(x.Rows, slices.Clone(row))
	}
	return x
}

// Tables, and heads of flows that read them.
const (
	people = "id:int n:text v:int|1 'a' 5|2 'b' -3|3 'a' 7|2 'b' -3"
	marks  = "id:int w:int|1 10|3 30|4 40"
	heads  = "in p: id int, n text, v int; in q: id int, w int; "
)

// both is an engine that has both tables, in version 2.
func both(t *testing.T, sectors int) *rig {
	t.Helper()
	r := fresh(t, sectors)
	r.loads(t, "p", people)
	r.loads(t, "q", marks)
	return r
}
