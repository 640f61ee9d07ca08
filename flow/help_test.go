package flow_test

import (
	"reflect"
	"slices"
	"strings"
	"testing"

	"foreman/api"
	"foreman/flow"
	"foreman/plain"
)

func num(n int) api.Value       { return api.Value{Kind: api.Int, Num: n} }
func word(s string) api.Value   { return api.Value{Kind: api.Text, Word: s} }
func col(name string) api.Arg   { return api.Arg{Col: name} }
func value(v api.Value) api.Arg { return api.Arg{Value: v} }
func names(s string) []string   { return strings.Fields(s) }

// read is a flow of a text.
func read(t *testing.T, s string) api.Flow {
	t.Helper()
	f, err := flow.Parse(s)
	if err != nil {
		e, at := plain.Place(err)
		t.Fatalf("%.200q: error %d at %d", s, e, at)
	}
	return f
}

// wrong asks that a text is wrong in this way at the byte where ^ stands in it (which is left out).
func wrong(t *testing.T, want api.Errno, marked string) {
	t.Helper()
	ahead, behind, ok := strings.Cut(marked, "^")
	if !ok {
		t.Fatalf("%.200q has no ^", marked)
	}
	wrongAt(t, want, len(ahead), ahead+behind)
}

// wrongAt asks that a text is wrong in this way at this byte, and that nothing is told beside it.
func wrongAt(t *testing.T, want api.Errno, place int, s string) {
	t.Helper()
	f, err := flow.Parse(s)
	if e, at := plain.Place(err); e != want || at != place {
		t.Errorf("%.300q: error %d at %d, want %d at %d", s, e, at, want, place)
	}
	if !reflect.DeepEqual(f, api.Flow{}) {
		t.Errorf("%.300q: beside the error it tells %v", s, f)
	}
}

// parts have each form of what a flow is put together of, with lists of at most so many: a blank between two tokens, N for each NAME, 1 for each NUMBER, 'a' for each QUOTED.
func parts(most int) []string {
	var l []string
	for _, cols := range lists(most, "N int", "N text") {
		l = append(l, "in N : "+cols+" ;")
	}
	for _, outs := range lists(most, "N") {
		for _, body := range bodies(most) {
			l = append(l, "job "+outs+" = "+body+" ;", "job "+outs+" retry 1 = "+body+" ;")
		}
	}
	return append(l, "out N = N ;")
}

// bodies have each form of what a job does.
func bodies(most int) []string {
	l := []string{"union N , N", "distinct N", "join N . N , N . N", "group N by N sum N", "group N by N max N"}
	args := []string{"N", "1", "- 1", "'a'"}
	for _, arg := range args {
		for _, cmp := range names("= <> < <= > >=") {
			l = append(l, "filter N where N "+cmp+" "+arg, "split N where N "+cmp+" "+arg)
		}
		for _, op := range names("+ - *") {
			for _, second := range args {
				l = append(l, "set N : N = "+arg+" "+op+" "+second)
			}
		}
	}
	for _, cols := range lists(most, "N") {
		l = append(l, "project N by "+cols, "sort N by "+cols)
	}
	return l
}

// lists have 1 to most of these, in each order, with , between.
func lists(most int, of ...string) []string {
	l := slices.Clone(of)
	if most > 1 {
		for _, rest := range lists(most-1, of...) {
			for _, x := range of {
				l = append(l, x+" , "+rest)
			}
		}
	}
	return l
}

// whole is a flow with all of 4.2 in it.
const whole = "in p: id int, n text; in q: w int; " +
	"job a = filter p where id >= -3; job b, bx retry 5 = split p where n = 'a b'; " +
	"job c = set p: id = id * 2; job d = project c by n, id; job e = sort d by id; " +
	"job f = union e, a; job g retry 0 = distinct f; job h = join g.id, q.w; " +
	"job i = group h by n sum id; job j = group h by w max id; " +
	"out r = i; out s = bx;"

// without is a flow whose parts don't tell where they begin.
func without(f api.Flow) api.Flow {
	var l api.Flow
	for _, in := range f.Ins {
		in.At = 0
		l.Ins = append(l.Ins, in)
	}
	for _, j := range f.Jobs {
		j.At = 0
		l.Jobs = append(l.Jobs, j)
	}
	for _, out := range f.Outs {
		out.At = 0
		l.Outs = append(l.Outs, out)
	}
	return l
}

// drawn gives numbers that look drawn, the same each time.
func drawn(seed uint64) func(most int) int {
	return func(most int) int {
		seed = seed*6364136223846793005 + 1442695040888963407
		return int((seed >> 33) % uint64(most))
	}
}
