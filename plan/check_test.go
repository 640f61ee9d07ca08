package plan_test

import (
	"fmt"
	"reflect"
	"strings"
	"testing"

	"foreman/api"
	"foreman/flow"
	"foreman/plain"
	"foreman/plan"
)

// Test52Columns: columns of all tables, those that nobody reads, too, whatever order jobs stand in.
func Test52Columns(t *testing.T) {
	got := columnsOf(t, "in p: id int, n text; in q: w int, x text, y int; in z: id int; "+
		"job i = group h by n sum id; job h = join g.id, q.w; job g = distinct f; job f = union e, a; "+
		"job e = sort d by id; job d = project c by id, n; job c = set p: id = id * 2; "+
		"job b, bx = split p where n = 'a'; job a retry 2 = filter p where id > 1; job j = project q by y, w; "+
		"out r = i; out p = p; out a = i; out q = z;")
	pn := "id int, n text"
	want := map[string]string{
		"p": pn, "q": "w int, x text, y int", "z": "id int", "a": pn, "b": pn, "bx": pn, "c": pn, "d": pn, "e": pn, "f": pn, "g": pn,
		"h": "id int, n text, x text, y int", "i": "n text, id int", "j": "y int, w int",
	}
	if !reflect.DeepEqual(got, want) {
		t.Errorf("%v, want %v", got, want)
	}
}

// Test52Few: flows without inputs, jobs or outputs.
func Test52Few(t *testing.T) {
	for s, want := range map[string]map[string]string{
		"":                                  {},
		"in p: id int;":                     {"p": "id int"},
		"in p: id int; out r = p;":          {"p": "id int"},
		"in p: id int; job a = distinct p;": {"p": "id int", "a": "id int"},
		"in p: a int, b int, c int, d text, e text, f int; out p = p; out q = p;": {"p": "a int, b int, c int, d text, e text, f int"},
	} {
		if got := columnsOf(t, s); !reflect.DeepEqual(got, want) {
			t.Errorf("%s: %v, want %v", s, got, want)
		}
	}
	if m, err := plan.Check(api.Flow{}); err != nil || m == nil || len(m) != 0 {
		t.Errorf("of nothing: %v, error %v", m, err)
	}
}

// fault is a part of a flow that is wrong, at ^; of two the one of a lower rank is told, of one rank the first.
type fault struct {
	rank int
	want api.Errno
	part string
}

// faults are all that Check tells; tables p (id int, n text), q (w int) and big, with as many columns as may be, are there. @ makes names that no other fault has.
var faults = []fault{
	{0, api.ErrForm, "^in a@: x int, x int;"},
	{0, api.ErrForm, "^in b@: x int, y int, x text;"},
	{0, api.ErrForm, "^in c@: a int, b int, c int, d int, e int, f int, g int;"},
	{1, api.ErrTwice, "in d@: x int; ^in d@: x int;"},
	{1, api.ErrTwice, "^in p: id int, n text;"},
	{1, api.ErrTwice, "^in q: x text;"},
	{2, api.ErrTwice, "job e@ = distinct p; ^job e@ = distinct p;"},
	{2, api.ErrTwice, "^job q = distinct p;"},
	{2, api.ErrTwice, "^job f@, f@ = split p where id < 1;"},
	{2, api.ErrTwice, "job g@, h@ = split p where id < 1; ^job i@, h@ = split p where id < 1;"},
	{2, api.ErrTwice, "^job j@, p = split q where zz < 1;"},
	{3, api.ErrMissing, "^job k@ = distinct zz;"},
	{3, api.ErrMissing, "^job l@ = union p, zz;"},
	{3, api.ErrMissing, "^job m@ = union zz, q;"},
	{4, api.ErrMissing, "^out n@ = zz;"},
	{4, api.ErrTwice, "out o@ = p; ^out o@ = q;"},
	{4, api.ErrMissing, "out q@ = p; ^out q@ = zz;"},
	{5, api.ErrCycle, "^job r@ = distinct s@; job s@ = distinct r@;"},
	{5, api.ErrCycle, "^job t@ = distinct t@;"},
	{6, api.ErrArg, "^job u@ = split p where id < 1;"},
	{6, api.ErrArg, "^job v@, w@ = distinct p;"},
	{6, api.ErrArg, "^job v@, w@, x@ = split p where id < 1;"},
	{6, api.ErrMissing, "^job y@ = filter p where zz = 1;"},
	{6, api.ErrFalse, "^job z@ = union p, q;"},
	{6, api.ErrTwice, "^job aa@ = sort p by id, id;"},
	{6, api.ErrTwice, "^job bb@ = join p.id, p.id;"},
	{6, api.ErrLimit, "job cc@ = join big.k, q.w; ^job dd@ = join cc@.k, p.id;"},
	{6, api.ErrFalse, "job ee@ = distinct ff@; ^job ff@ = set p: n = 1 + 1;"},
}

// flowOf is a flow's text with these parts in it, in this order, behind those that are there.
func flowOf(parts ...string) string {
	sections := []string{"in p: id int, n text; in q: w int; in big: k int, b int, c int, d int, e int, f int; ", "job fine = distinct p; ", ""}
	for i, s := range parts {
		s = strings.ReplaceAll(s, "@", fmt.Sprint("x", i)) + " "
		switch words := strings.Fields(strings.Trim(s, "^")); words[0] {
		case "in":
			sections[0] += s
		case "job":
			sections[1] += s
		default:
			sections[2] += s
		}
	}
	return strings.Join(sections, "") + "out fine = fine;"
}

// Test52Wrong: each fault is told, at its part.
func Test52Wrong(t *testing.T) {
	for _, x := range faults {
		wrong(t, x.want, flowOf(x.part))
	}
}

// Test52First: of two faults the one is told that the document tells first, wherever they stand.
func Test52First(t *testing.T) {
	unmarked := func(x fault) string { return strings.ReplaceAll(x.part, "^", "") }
	for _, a := range faults {
		for _, b := range faults {
			if a.rank <= b.rank {
				wrong(t, a.want, flowOf(a.part, unmarked(b)))
			}
			if a.rank < b.rank {
				wrong(t, a.want, flowOf(unmarked(b), a.part))
			}
		}
	}
}

// Test52Order: what is wrong with columns is told job by job as they come, not as they stand.
func Test52Order(t *testing.T) {
	wrong(t, api.ErrMissing, "in p: id int; job a = filter b where zz = 'a'; ^job b = filter p where zz = 1;")
	wrong(t, api.ErrFalse, "in p: id int; job a = filter d where zz = 1; job b = distinct p; ^job c = filter p where id = 'a'; job d = distinct b;")
	wrong(t, api.ErrFalse, "in p: id int; ^job a = filter b where id = 'a'; job b = distinct p; job c = filter a where zz = 1;")
	wrong(t, api.ErrMissing, "in p: id int, v int; ^job a = filter b where v = 1; job b = project p by id;")
}

// Test52Inner: an error has a place around one of the errors alone.
func Test52Inner(t *testing.T) {
	for _, x := range faults {
		s, _ := cut(t, flowOf(x.part))
		_, err := plan.Check(read(t, s))
		if at, ok := err.(*api.At); !ok || at.Err != x.want || at.Unwrap() != error(x.want) {
			t.Errorf("%s: error %#v", s, err)
		}
	}
}

// Test52AnyOrder: jobs stand in any order: the columns, or the error's number, are the same.
func Test52AnyOrder(t *testing.T) {
	n := drawn(8)
	right := 0
	for range 1000 {
		f := drawnFlow(t, n)
		g := moved(f, n)
		a, err := plan.Check(f)
		b, again := plan.Check(g)
		if !reflect.DeepEqual(a, b) || api.Tell(err) != api.Tell(again) {
			t.Fatalf("%s: %v, error %v; moved: %v, error %v", flow.Print(f), a, err, b, again)
		}
		if err == nil {
			right++
		}
	}
	if right < 100 {
		t.Errorf("%d flows are right", right)
	}
}

// Test52Nobody: a job that nobody reads changes neither the columns of others nor their order.
func Test52Nobody(t *testing.T) {
	n := drawn(9)
	right := 0
	for range 1000 {
		f := drawnFlow(t, n)
		a, err := plan.Check(f)
		if err != nil || len(f.Jobs) == api.MaxJobs {
			continue
		}
		right++
		order, _ := plan.Order(f)
		g := f
		g.Jobs = append(append([]api.Job{}, f.Jobs...), api.Job{Code: api.Distinct, Outs: []string{"more"}, Ins: []string{"p"}})
		b, err := plan.Check(g)
		if err != nil || written(b["more"]) != written(a["p"]) {
			t.Fatalf("%s: error %v, %v", flow.Print(g), err, b["more"])
		}
		delete(b, "more")
		var rest []int
		more, _ := plan.Order(g)
		for _, job := range more {
			if job != len(f.Jobs) {
				rest = append(rest, job)
			}
		}
		if !reflect.DeepEqual(a, b) || !reflect.DeepEqual(rest, order) {
			t.Fatalf("%s: %v %v, then %v %v", flow.Print(f), a, order, b, rest)
		}
	}
	if right < 100 {
		t.Errorf("%d flows are right", right)
	}
}

// Test52Printed: what is written and read again is as right, and as wrong, as it was.
func Test52Printed(t *testing.T) {
	for _, x := range faults {
		s, _ := cut(t, flowOf(x.part))
		f := read(t, s)
		_, err := plan.Check(f)
		_, again := plan.Check(read(t, flow.Print(f)))
		e, at := plain.Place(err)
		if same, _ := plain.Place(again); same != e || at < 0 {
			t.Errorf("%s: error %d, printed %d", s, e, same)
		}
	}
}
