package plan_test

import (
	"fmt"
	"math"
	"reflect"
	"slices"
	"strings"
	"testing"

	"foreman/api"
	"foreman/plain"
	"foreman/plan"
)

// Test51Order: jobs come behind what they read, the first that may come first.
func Test51Order(t *testing.T) {
	for s, want := range map[string][]int{
		"": nil,
		"in p: id int; job a = distinct b; job b = distinct p; out r = a;":                                          {1, 0},
		"in p: id int; job a = distinct p; job b = distinct p; job c = distinct p;":                                 {0, 1, 2},
		"in p: id int; job a = distinct c; job b = distinct p; job c = distinct p; job d = distinct a;":             {1, 2, 0, 3},
		"in p: id int; job a = distinct b; job b = distinct c; job c = distinct p;":                                 {2, 1, 0},
		"in p: id int; job a = union p, c; job b = union c, p; job c = distinct p; job d = distinct p;":             {2, 0, 1, 3},
		"in p: id int; job a = union b, c; job b = distinct p; job c = distinct b; job d = union a, a;":             {1, 2, 0, 3},
		"in p: id int; job a = distinct y; job b = distinct x; job x, y = split p where id = 1; job e = union a,b;": {2, 0, 1, 3},
	} {
		l, err := plan.Order(read(t, s))
		if err != nil || !slices.Equal(l, want) {
			t.Errorf("%s: %v, error %v, want %v", s, l, err, want)
		}
	}
}

// Test51Long: as many jobs as may be, each of which reads the next one.
func Test51Long(t *testing.T) {
	s, want := "in t16: id int; ", []int{}
	for i := range api.MaxJobs {
		s += fmt.Sprintf("job t%d = distinct t%d; ", i, i+1)
		want = append(want, api.MaxJobs-1-i)
	}
	if l, err := plan.Order(read(t, s)); err != nil || !slices.Equal(l, want) {
		t.Errorf("%v, error %v, want %v", l, err, want)
	}
}

// Test51Cycle: jobs that go round, and those behind them, never come; the first of these is told.
func Test51Cycle(t *testing.T) {
	for _, marked := range []string{
		"in p: id int; ^job a = distinct a;",
		"in p: id int; job c = distinct p; ^job a = union p, b; job b = union a, c; job d = distinct p;",
		"in p: id int; ^job d = distinct b; job a = distinct b; job b = distinct a; job c = distinct p;",
		"in p: id int; job c = distinct d; job d = distinct p; ^job x, y = split y where id = 1;",
		"^job a = distinct b; job b = distinct c; job c = distinct a;",
	} {
		s, place := cut(t, marked)
		l, err := plan.Order(read(t, s))
		if e, at := plain.Place(err); e != api.ErrCycle || at != place || l != nil {
			t.Errorf("%s: %v, error %d at %d, want %d at %d", s, l, e, at, api.ErrCycle, place)
		}
		wrong(t, api.ErrCycle, marked)
	}
}

// Test51Ready: all that a job reads is given, or made by what is done.
func Test51Ready(t *testing.T) {
	f := read(t, "in p: id int; in q: id int; "+
		"job a = union p, q; job b = union a, p; job c, d = split b where id < 1; job e = union d, a; job g = distinct g;")
	for _, x := range []struct {
		job  int
		done []int
		want bool
	}{
		{0, nil, true}, {0, []int{3}, true}, {0, []int{0}, true},
		{1, nil, false}, {1, []int{0}, true}, {1, []int{2, 3, 1}, false}, {1, []int{2, 0}, true}, {1, []int{0, 0}, true},
		{2, []int{0}, false}, {2, []int{1}, true},
		{3, []int{2}, false}, {3, []int{0}, false}, {3, []int{0, 2}, true}, {3, []int{2, 1, 0}, true}, {3, []int{1, 3}, false},
		{4, []int{0, 1, 2, 3}, false}, {4, []int{4}, true},
	} {
		if got := plan.Ready(f, x.job, x.done); got != x.want {
			t.Errorf("job %d behind %v: %v, want %v", x.job, x.done, got, x.want)
		}
	}
}

// behind says whether all that a job reads is p, q or made by these, by a list of what there is.
func behind(f api.Flow, job int, done []int) bool {
	there := []string{"p", "q"}
	for _, d := range done {
		there = append(there, f.Jobs[d].Outs...)
	}
	for _, name := range f.Jobs[job].Ins {
		if !slices.Contains(there, name) {
			return false
		}
	}
	return true
}

// Test51Drawn: each job that is told is the first one that may be, and where it ends none may be.
func Test51Drawn(t *testing.T) {
	n := drawn(5)
	rounds, whole := 0, 0
	for range 2000 {
		f := drawnFlow(t, n)
		var want []int
		next := func() int {
			for job := range f.Jobs {
				if !slices.Contains(want, job) && behind(f, job, want) {
					return job
				}
			}
			return -1
		}
		for job := next(); job >= 0; job = next() {
			want = append(want, job)
		}
		l, err := plan.Order(f)
		if len(want) == len(f.Jobs) {
			whole++
			if err != nil || !slices.Equal(l, want) {
				t.Fatalf("%v: %v, error %v, want %v", f, l, err, want)
			}
			continue
		}
		rounds++
		first := 0
		for slices.Contains(want, first) {
			first++
		}
		if e, at := plain.Place(err); e != api.ErrCycle || at != f.Jobs[first].At || l != nil {
			t.Fatalf("%v: %v, error %d at %d, want job %d", f, l, e, at, first)
		}
	}
	if rounds < 200 || whole < 200 {
		t.Errorf("%d flows go round, %d don't", rounds, whole)
	}
}

// Test51ReadyDrawn: of any done the answer is the same as by a list of what there is.
func Test51ReadyDrawn(t *testing.T) {
	n := drawn(6)
	said := map[bool]int{}
	for range 1000 {
		f := drawnFlow(t, n)
		for job := range f.Jobs {
			var done []int
			for range n(len(f.Jobs) + 1) {
				done = append(done, n(len(f.Jobs)))
			}
			got := plan.Ready(f, job, done)
			if got != behind(f, job, done) {
				t.Fatalf("%v: job %d behind %v: %v", f, job, done, got)
			}
			said[got]++
		}
	}
	if said[true] < 500 || said[false] < 500 {
		t.Errorf("said %v", said)
	}
}

// TestP1: nothing panics, whatever it is given.
func TestP1(t *testing.T) {
	n := drawn(7)
	f := read(t, "in p: id int; job a = distinct p; job b = distinct a;")
	for _, job := range []int{-1, 2, 3, math.MinInt, math.MaxInt} {
		if plan.Ready(f, job, []int{0, 1}) || plan.Ready(api.Flow{}, job, nil) {
			t.Errorf("job %d is ready", job)
		}
		if plan.Ready(f, 1, []int{job}) || !plan.Ready(f, 1, []int{job, 0}) {
			t.Errorf("behind %d", job)
		}
	}
	odd := []string{"", "p", "a", "A", "\xff", strings.Repeat("p", 99)}
	some := func() []string {
		var l []string
		for range n(4) {
			l = append(l, odd[n(len(odd))])
		}
		return l
	}
	arg := func() api.Arg {
		return api.Arg{Col: odd[n(len(odd))], Value: api.Value{Kind: n(4) - 1, Num: n(3)}}
	}
	for range 5000 {
		var f api.Flow
		for range n(3) {
			f.Ins = append(f.Ins, api.Input{At: n(9) - 4, Name: odd[n(len(odd))], Cols: []api.Column{{Name: "p", Kind: 1 + n(2)}, {Name: "a", Kind: n(3)}}[:n(3)]})
		}
		for range n(4) {
			f.Jobs = append(f.Jobs, api.Job{At: n(9) - 4, Code: n(12) - 1, Ins: some(), Outs: some(), Cols: some(), Op: []string{"", "=", "+", "sum"}[n(4)], Left: arg(), Right: arg(), Retry: n(9) - 4})
		}
		for range n(3) {
			f.Outs = append(f.Outs, api.Publish{Name: odd[n(len(odd))], From: odd[n(len(odd))]})
		}
		plan.Check(f)
		plan.Order(f)
		plan.Ready(f, n(6)-1, []int{n(6) - 1, n(6) - 1})
	}
}

// TestP4: what is handed in stays as it is, and what comes out is the caller's.
func TestP4(t *testing.T) {
	s := "in p: id int, v int; in q: id int, v int; job e = distinct d; job a = union p, q; job c, d = split a where id < 1; out r = e;"
	f, same := read(t, s), read(t, s)
	done := []int{1, 2, 7}[:2]
	if !plan.Ready(f, 0, done) || !slices.Equal(done[:3], []int{1, 2, 7}) {
		t.Errorf("done is %v", done[:3])
	}
	l, _ := plan.Order(f)
	m, _ := plan.Check(f)
	clear(l[:cap(l)])
	for name, cols := range m {
		for i := range cols[:cap(cols)] {
			cols[:cap(cols)][i] = api.Column{Name: name, Kind: i}
		}
	}
	for name, cols := range m {
		for i, c := range cols {
			if c != (api.Column{Name: name, Kind: i}) {
				t.Errorf("%s shares its columns: %v", name, cols)
			}
		}
	}
	clear(m)
	if !reflect.DeepEqual(f, same) {
		t.Errorf("the flow is changed: %v", f)
	}
	if l, err := plan.Order(f); err != nil || !slices.Equal(l, []int{1, 2, 0}) {
		t.Errorf("then the order is %v, error %v", l, err)
	}
	if m, err := plan.Check(f); err != nil || len(m) != 6 || written(m["d"]) != "id int, v int" {
		t.Errorf("then the columns are %v, error %v", m, err)
	}
}
