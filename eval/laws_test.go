package eval_test

import (
	"fmt"
	"math"
	"reflect"
	"slices"
	"strings"
	"testing"

	"foreman/api"
	"foreman/eval"
	"foreman/ops"
	"foreman/plan"
)

// asked is a table of a flow, made of what makes it, back to what is given; false, if a job on the way fails.
func asked(f api.Flow, given map[string]api.Table, name string) (api.Table, bool) {
	for _, in := range f.Ins {
		if in.Name == name {
			return given[name], true
		}
	}
	for _, j := range f.Jobs {
		at := slices.Index(j.Outs, name)
		if at < 0 {
			continue
		}
		var ins []api.Table
		for _, from := range j.Ins {
			x, ok := asked(f, given, from)
			if !ok {
				return api.Table{}, false
			}
			ins = append(ins, x)
		}
		outs, err := ops.Do(j, ins)
		if err != nil {
			return api.Table{}, false
		}
		return outs[at], true
	}
	return api.Table{}, false
}

// firstFail is the number of the first job in order some table of which can't be asked for, -1 if there is none.
func firstFail(t *testing.T, f api.Flow, given map[string]api.Table) int {
	t.Helper()
	order, err := plan.Order(f)
	if err != nil {
		t.Fatal(err)
	}
	for _, job := range order {
		if _, ok := asked(f, given, f.Jobs[job].Outs[0]); !ok {
			return job
		}
	}
	return -1
}

// Test61Drawn: what is told is what comes of asking back, from each OUT; a run fails at the first job of which nothing comes.
func Test61Drawn(t *testing.T) {
	n := drawn(61)
	right, failed := 0, 0
	for range 2000 {
		f, given := moved(drawnFlow(t, n), n), drawnTables(n)
		m, fail := eval.Run(f, given)
		if job := firstFail(t, f, given); fail.Job != job || (fail.Err == api.OK) != (job < 0) {
			t.Fatalf("%v of %v: ends with %v, want job %d", f, given, fail, job)
		}
		if fail != fine {
			failed++
			continue
		}
		right++
		want := map[string]string{}
		for _, out := range f.Outs {
			x, _ := asked(f, given, out.From)
			want[out.Name] = text(t, x)
		}
		if got := texts(t, m); !reflect.DeepEqual(got, want) {
			t.Fatalf("%v of %v: %q, want %q", f, given, got, want)
		}
	}
	if right < 500 || failed < 200 {
		t.Errorf("%d tell something, %d fail", right, failed)
	}
}

// The order is nothing: jobs that stand otherwise tell the same, or fail as well.
func Test61TheOrderIsNothing(t *testing.T) {
	n := drawn(62)
	for range 2000 {
		f, given := drawnFlow(t, n), drawnTables(n)
		a, fail := eval.Run(f, given)
		b, again := eval.Run(moved(f, n), given)
		if (fail == fine) != (again == fine) || !reflect.DeepEqual(texts(t, a), texts(t, b)) {
			t.Fatalf("%v of %v: %v, %v; moved: %v, %v", f, given, a, fail, b, again)
		}
	}
}

// Who asks for nothing is in nobody's way: a job that nobody reads, a table that nobody asks for, change nothing of what is told.
func Test61WhoAsksForNothing(t *testing.T) {
	n := drawn(63)
	for range 2000 {
		f, given := drawnFlow(t, n), drawnTables(n)
		a, fail := eval.Run(f, given)
		g := f
		g.Ins = append(slices.Clone(f.Ins), api.Input{Name: "more", Cols: []api.Column{{Name: "x", Kind: api.Text}}})
		g.Jobs = append(slices.Clone(f.Jobs), api.Job{Code: api.Distinct, Outs: []string{"same"}, Ins: []string{"more"}})
		given["more"] = tab(t, "x:text|'a'|'a'")
		if b, again := eval.Run(g, given); fail != again || !reflect.DeepEqual(texts(t, a), texts(t, b)) {
			t.Fatalf("%v of %v: %v, %v, then %v, %v", f, given, a, fail, b, again)
		}
	}
}

// oddFlow is a flow that Parse would not tell.
func oddFlow(n func(int) int) api.Flow {
	odd := []string{"", "p", "a", "A", "\xff", strings.Repeat("p", 99)}
	some := func() []string {
		var l []string
		for range n(4) {
			l = append(l, odd[n(len(odd))])
		}
		return l
	}
	arg := func() api.Arg {
		return api.Arg{Col: []string{"", "p", "a"}[n(3)], Value: api.Value{Kind: n(4) - 1, Num: []int{0, 1, math.MinInt, math.MaxInt}[n(4)]}}
	}
	var f api.Flow
	for range n(3) {
		f.Ins = append(f.Ins, api.Input{At: n(9) - 4, Name: odd[n(len(odd))], Cols: []api.Column{{Name: "p", Kind: 1 + n(2)}, {Name: "a", Kind: n(3)}}[:n(3)]})
	}
	for range n(4) {
		f.Jobs = append(f.Jobs, api.Job{At: n(9) - 4, Code: n(12) - 1, Ins: some(), Outs: some(), Cols: some(), Op: []string{"", "=", "+", "sum"}[n(4)], Left: arg(), Right: arg(), Retry: n(9) - 4})
	}
	for range n(3) {
		f.Outs = append(f.Outs, api.Publish{Name: odd[n(len(odd))], From: odd[n(len(odd))]})
	}
	return f
}

// TestP1: nothing panics, whatever it is given; what tells an error tells nothing else.
func TestP1(t *testing.T) {
	n := drawn(64)
	told := 0
	for range 20000 {
		f, given := oddFlow(n), map[string]api.Table{}
		for _, in := range f.Ins {
			x := api.Table{Cols: in.Cols}
			for range n(3) {
				x.Rows = append(x.Rows, []api.Value{{Kind: 1 + n(2)}, {Kind: 1 + n(2), Num: n(2), Word: []string{"", "x"}[n(2)]}}[:n(3)])
			}
			if n(9) > 0 {
				given[in.Name] = x
			}
		}
		m, fail := eval.Run(f, given)
		if (fail.Err == api.OK) != (m != nil) || fail.Err == api.OK && fail != fine || fail.Job < -1 || fail.Job >= len(f.Jobs) {
			t.Fatalf("%v of %v: %v, ends with %v", f, given, m, fail)
		}
		if fail == fine {
			told++
		}
	}
	if told < 100 {
		t.Errorf("%d flows tell something", told)
	}
}

// roomy is a table with something behind the length of each of its lists.
func roomy(x api.Table) api.Table {
	y := api.Table{Cols: append(slices.Clone(x.Cols), api.Column{Name: "behind", Kind: 9})[:len(x.Cols)]}
	for _, r := range x.Rows {
		y.Rows = append(y.Rows, append(slices.Clone(r), num(99))[:len(r)])
	}
	y.Rows = append(y.Rows, []api.Value{num(98)})[:len(x.Rows)]
	return y
}

// whole writes all of a roomy table, with what is behind its lists' lengths.
func whole(x api.Table) string {
	s := fmt.Sprint(x.Cols[:len(x.Cols)+1])
	for _, r := range x.Rows {
		s += fmt.Sprint(r[:len(r)+1])
	}
	return s + fmt.Sprint(x.Rows[:len(x.Rows)+1][len(x.Rows)])
}

// spoil writes into all of a table, and behind its lists' lengths.
func spoil(x api.Table) {
	for i := range x.Cols[:cap(x.Cols)] {
		x.Cols[:cap(x.Cols)][i] = api.Column{Name: "spoilt"}
	}
	for _, r := range x.Rows {
		for i := range r[:cap(r)] {
			r[:cap(r)][i] = word("spoilt")
		}
	}
	for i := range x.Rows[:cap(x.Rows)] {
		x.Rows[:cap(x.Rows)][i] = nil
	}
}

// everything is a flow that tells what is given and what is made, each twice.
const everything = behindInputs + "job a = sort p by id; job b, c = split a where id < 3; job d = union b, c; job g = distinct e; " +
	"out p = p; out p2 = p; out q = q; out a = a; out a2 = a; out b = b; out c = c; out c2 = c; out d = d; out g = g; out e = e; out e2 = e;"

// TestP4: what is handed in stays as it is, what comes out is the caller's, and no two tables of it share memory.
func TestP4(t *testing.T) {
	f, same := read(t, everything), read(t, everything)
	given, were := map[string]api.Table{}, map[string]string{}
	for name, x := range tabs(t, inputs) {
		given[name] = roomy(x)
		were[name] = whole(given[name])
	}
	m, fail := eval.Run(f, given)
	if fail != fine || len(m) != len(f.Outs) {
		t.Fatalf("%v, ends with %v", m, fail)
	}
	want := texts(t, m)
	for name, x := range m {
		// Those that were told ahead of it are spoilt by now.
		if got := text(t, x); got != want[name] {
			t.Errorf("%s shares memory with another one: %s, want %s", name, got, want[name])
		}
		spoil(x)
		m[name] = api.Table{}
	}
	clear(m)
	if len(given) != len(were) {
		t.Errorf("what is given is another map: %v", given)
	}
	for name, x := range given {
		if got := whole(x); got != were[name] {
			t.Errorf("%s was written into, or is shared: %s, want %s", name, got, were[name])
		}
	}
	if !reflect.DeepEqual(f, same) {
		t.Errorf("the flow is changed: %v", f)
	}
	if again, fail := eval.Run(f, given); fail != fine || !reflect.DeepEqual(texts(t, again), want) {
		t.Errorf("once more: %v, ends with %v", again, fail)
	}
}

// TestP4Kept: nothing that was handed in is kept.
func TestP4Kept(t *testing.T) {
	f, given := read(t, everything), tabs(t, inputs)
	m, _ := eval.Run(f, given)
	want := texts(t, m)
	for _, x := range given {
		spoil(x)
	}
	clear(given)
	if got := texts(t, m); !reflect.DeepEqual(got, want) {
		t.Errorf("%v, want %v", got, want)
	}
	if again, fail := eval.Run(f, tabs(t, inputs)); fail != fine || !reflect.DeepEqual(texts(t, again), want) {
		t.Errorf("once more: %v, ends with %v", again, fail)
	}
	fails(t, everything, given, api.ErrMissing, -1)
}
