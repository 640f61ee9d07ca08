package eval_test

import (
	"reflect"
	"slices"
	"testing"

	"foreman/api"
	"foreman/eval"
)

// inputs are what the flows of runs are given.
var inputs = map[string]string{
	"p": "id:int n:text|3 'c'|1 'a'|2 'a'|1 'a'",
	"q": "w:int x:int|1 10|3 30|1 11",
	"e": "id:int n:text",
}

// runs are flows behind the inputs, and what they tell.
var runs = []struct {
	text string
	want map[string]string
}{
	{"", map[string]string{}},
	{"job a = distinct p;", map[string]string{}},
	{"out r = p;", map[string]string{"r": inputs["p"]}},
	{"out r = e;", map[string]string{"r": inputs["e"]}},
	{"out p = q; out q = p;", map[string]string{"p": inputs["q"], "q": inputs["p"]}},
	{"job a = filter p where id >= 2; out r = a;", map[string]string{"r": "id:int n:text|3 'c'|2 'a'"}},
	{"job a, b = split p where n = 'a'; out r = b; out s = a;", map[string]string{"r": "id:int n:text|3 'c'", "s": "id:int n:text|1 'a'|2 'a'|1 'a'"}},
	{"job a = set p: id = id * -2; out r = a;", map[string]string{"r": "id:int n:text|-6 'c'|-2 'a'|-4 'a'|-2 'a'"}},
	{"job a = project p by n; out r = a;", map[string]string{"r": "n:text|'c'|'a'|'a'|'a'"}},
	{"job a = sort p by n, id; out r = a;", map[string]string{"r": "id:int n:text|1 'a'|1 'a'|2 'a'|3 'c'"}},
	{"job a = union p, p; out r = a;", map[string]string{"r": inputs["p"] + "|3 'c'|1 'a'|2 'a'|1 'a'"}},
	{"job b = filter p where id < 2; job a = union b, p; out r = a;", map[string]string{"r": "id:int n:text|1 'a'|1 'a'|3 'c'|1 'a'|2 'a'|1 'a'"}},
	{"job b = filter p where id < 2; job a = union p, b; out r = a;", map[string]string{"r": "id:int n:text|3 'c'|1 'a'|2 'a'|1 'a'|1 'a'|1 'a'"}},
	{"job a = distinct p; out r = a;", map[string]string{"r": "id:int n:text|3 'c'|1 'a'|2 'a'"}},
	{"job a = join p.id, q.w; out r = a;", map[string]string{"r": "id:int n:text x:int|3 'c' 30|1 'a' 10|1 'a' 11|1 'a' 10|1 'a' 11"}},
	{"job a = join q.w, p.id; out r = a;", map[string]string{"r": "w:int x:int n:text|1 10 'a'|1 10 'a'|3 30 'c'|1 11 'a'|1 11 'a'"}},
	{"job a = group p by n sum id; out r = a;", map[string]string{"r": "n:text id:int|'a' 4|'c' 3"}},
	{"job a = group p by n max id; out r = a;", map[string]string{"r": "n:text id:int|'a' 2|'c' 3"}},
	// Jobs stand the other way round than they come.
	{"job d = sort c by n; job c = project b by n; job b, a = split p where id > 1; out r = d; out s = a;", map[string]string{"r": "n:text|'a'|'c'", "s": "id:int n:text|1 'a'|1 'a'"}},
	// A table is told twice, and by names that other tables have in the flow.
	{"job a = distinct p; job b = filter a where n <> 'a'; out a = b; out b = b; out c = a; out p = a;", map[string]string{
		"a": "id:int n:text|3 'c'", "b": "id:int n:text|3 'c'", "c": "id:int n:text|3 'c'|1 'a'|2 'a'", "p": "id:int n:text|3 'c'|1 'a'|2 'a'",
	}},
	// How often a job may fail is nothing to what is meant.
	{"job a retry 5 = filter e where id = 1; out r = a;", map[string]string{"r": inputs["e"]}},
}

const behindInputs = "in p: id int, n text; in q: w int, x int; in e: id int, n text; "

func Test61Run(t *testing.T) {
	for _, x := range runs {
		m, fail := eval.Run(read(t, behindInputs+x.text), tabs(t, inputs))
		if fail != fine || m == nil {
			t.Errorf("%s: ends with %d, job %d", x.text, fail.Err, fail.Job)
			continue
		}
		if got := texts(t, m); !reflect.DeepEqual(got, x.want) {
			t.Errorf("%s: %q, want %q", x.text, got, x.want)
		}
	}
}

// Test61Nothing: a flow that reads nothing may be given anything, or nothing.
func Test61Nothing(t *testing.T) {
	for _, given := range []map[string]api.Table{nil, {}, {"p": {}}, {"": many(t, 1)}} {
		if m, fail := eval.Run(api.Flow{}, given); fail != fine || m == nil || len(m) != 0 {
			t.Errorf("of %v: %v, ends with %v", given, m, fail)
		}
	}
}

// Test61More: tables that no IN names are not looked at, nor told, nor read.
func Test61More(t *testing.T) {
	given := map[string]api.Table{"p": many(t, 2), "a": many(t, 3), "r": many(t, 4), "spoilt": {Rows: [][]api.Value{nil}}}
	m, fail := eval.Run(read(t, "in p: id int, v int; job a = distinct p; out s = a;"), given)
	if want := map[string]string{"s": "id:int v:int|0 1|1 1"}; fail != fine || !reflect.DeepEqual(texts(t, m), want) {
		t.Errorf("%v, ends with %v, want %v", m, fail, want)
	}
	fails(t, "in p: id int, v int; job b = distinct a; out s = b;", given, api.ErrMissing, -1)
	fails(t, "in p: id int, v int; out s = a;", given, api.ErrMissing, -1)
}

// Test61Check: what Check tells is told first, without a job, whatever is given.
func Test61Check(t *testing.T) {
	for s, want := range map[string]api.Errno{
		"in p: id int, id int;":                                                                       api.ErrForm,
		"in p: a int, b int, c int, d int, e int, f int, g int;":                                      api.ErrForm,
		"in p: id int, v int; in p: id int, v int;":                                                   api.ErrTwice,
		"in p: id int, v int; job p = distinct p;":                                                    api.ErrTwice,
		"in p: id int, v int; out r = p; out r = p;":                                                  api.ErrTwice,
		"in p: id int, v int; job a = distinct zz;":                                                   api.ErrMissing,
		"in p: id int, v int; out r = zz;":                                                            api.ErrMissing,
		"in p: id int, v int; job c = distinct p; job a = distinct b; job b = distinct a; out r = p;": api.ErrCycle,
		"in p: id int, v int; job a, b = distinct p;":                                                 api.ErrArg,
		"in p: id int, v int; job b = distinct p; job a = split p where id < 1;":                      api.ErrArg,
		"in p: id int, v int; job b = distinct p; job a = sort p by zz;":                              api.ErrMissing,
		"in p: id int, v int; job b = distinct p; job a = sort p by v, v;":                            api.ErrTwice,
		"in p: id int, v int; job a = filter p where id = 'a';":                                       api.ErrFalse,
		"in p: id int, v int; job a = project p by id; job b = union p, a; out r = p;":                api.ErrFalse,
		// What jobs would fail at comes behind what is wrong with others.
		"in p: id int, v int; job a = set p: id = 1000000000 * 2; job b = sort p by zz;": api.ErrMissing,
	} {
		fails(t, s, map[string]api.Table{"p": many(t, 3)}, want, -1)
		fails(t, s, nil, want, -1)
		fails(t, s, map[string]api.Table{"p": {}}, want, -1)
	}
}

// falseTables are tables that are not such as `in p: id int, n text` asks for.
func falseTables(t *testing.T) map[string]api.Table {
	t.Helper()
	right := tab(t, "id:int n:text|1 'a'|2 'b'")
	with := func(rows ...[]api.Value) api.Table {
		return api.Table{Cols: right.Cols, Rows: append(slices.Clip(right.Rows), rows...)}
	}
	rows := make([][]api.Value, api.MaxRows-1)
	for i := range rows {
		rows[i] = []api.Value{num(i), word("")}
	}
	return map[string]api.Table{
		"nothing":        {},
		"no columns":     {Rows: right.Rows},
		"fewer columns":  tab(t, "id:int"),
		"more columns":   tab(t, "id:int n:text v:int"),
		"other order":    tab(t, "n:text id:int"),
		"other kind":     tab(t, "id:int n:int"),
		"other name":     tab(t, "id:int m:text"),
		"too many rows":  with(rows...),
		"a short row":    with([]api.Value{num(1)}),
		"a long row":     with([]api.Value{num(1), word("a"), num(1)}),
		"an empty row":   with(nil),
		"other kinds":    with([]api.Value{word("a"), num(1)}),
		"no kind":        with([]api.Value{num(1), {}}),
		"a great number": with([]api.Value{num(api.MaxNum + 1), word("a")}),
		"a low number":   with([]api.Value{num(-api.MaxNum - 1), word("a")}),
		"a long text":    with([]api.Value{num(1), word("0123456789abcdefg")}),
		"a wrong letter": with([]api.Value{num(1), word("'")}),
		"both":           with([]api.Value{num(1), {Kind: api.Text, Num: 1, Word: "a"}}),
	}
}

// Test61Inputs: what an IN asks for must be there, and be so, whoever reads it.
func Test61Inputs(t *testing.T) {
	for _, rest := range []string{"", "out r = p;", "job a = distinct p; out r = a;", "job a = set p: id = 1000000000 + 1;", "in q: w int; out r = q;"} {
		s := "in p: id int, n text; " + rest
		q := tab(t, "w:int|1")
		fails(t, s, nil, api.ErrMissing, -1)
		fails(t, s, map[string]api.Table{"q": q, "id": q, "": q}, api.ErrMissing, -1)
		for _, x := range falseTables(t) {
			fails(t, s, map[string]api.Table{"p": x, "q": q}, api.ErrFalse, -1)
		}
	}
}

// Test61InByIn: of several INs the first one's error is told, whichever it is.
func Test61InByIn(t *testing.T) {
	right, other := many(t, 1), tab(t, "w:int")
	for _, x := range []struct {
		given map[string]api.Table
		want  api.Errno
	}{
		{map[string]api.Table{"a": other, "b": right}, api.ErrFalse},
		{map[string]api.Table{"b": other}, api.ErrMissing},
		{map[string]api.Table{"a": other}, api.ErrFalse},
		{map[string]api.Table{"a": right, "b": other}, api.ErrFalse},
		{map[string]api.Table{"a": right}, api.ErrMissing},
		{map[string]api.Table{"b": right}, api.ErrMissing},
		{map[string]api.Table{"a": other, "b": other}, api.ErrFalse},
		{map[string]api.Table{}, api.ErrMissing},
	} {
		fails(t, "in a: id int, v int; in b: id int, v int; out r = a;", x.given, x.want, -1)
		fails(t, "in a: id int, v int; in b: id int, v int; job c = set a: id = 1000000000 * 2;", x.given, x.want, -1)
	}
}

// Test61Jobs: what Do tells is told with the number of the first job in order at which it is.
func Test61Jobs(t *testing.T) {
	for _, x := range []struct {
		text string
		want api.Errno
		job  int
	}{
		{"job a = set p: id = 1000000000 + v; out r = a;", api.ErrRange, 0},
		{"job a = distinct p; job b = set p: id = 1000000000 + v; out r = a;", api.ErrRange, 1},
		{"job a = union p, p; out r = a;", api.ErrFull, 0},
		{"job a = distinct p; job b = distinct p; job c = join q.w, p.v; out r = c;", api.ErrFull, 2},
		{"job a = set p: v = 1000000000 * v; job b = group a by v max v;", api.ErrTwice, -1},
		{"job a = set p: v = v * 1000000000; job c = set a: id = 1 - 1; job b = group c by id sum v;", api.ErrRange, 2},
		// None behind the first is done, and none reads what it would have made.
		{"job a = set p: id = 1000000000 + v; job b = union p, p;", api.ErrRange, 0},
		{"job b = union p, p; job a = set p: id = 1000000000 + v;", api.ErrFull, 0},
		{"job b = distinct p; job a = union b, p; job c = union a, p;", api.ErrFull, 1},
		// The number is where it stands, the first is that in order.
		{"job a = set c: id = 1000000000 + v; job b = distinct p; job c = union p, b;", api.ErrFull, 2},
		{"job a = union b, b; job b = distinct c; job c = distinct p; job d = set p: id = -1000000000 - v;", api.ErrFull, 0},
		{"job a = union c, p; job b = set p: id = -1000000000 - v; job c = distinct p;", api.ErrRange, 1},
		{"job a, b = split p where id < 30; job c = union a, b; job d = union c, a; out r = c;", api.ErrFull, 2},
	} {
		s := "in p: id int, v int; in q: w int; " + x.text
		fails(t, s, map[string]api.Table{"p": many(t, api.MaxRows), "q": tab(t, "w:int|1|1")}, x.want, x.job)
	}
}

// Test61Edges: as many rows, and as great numbers, as may be.
func Test61Edges(t *testing.T) {
	s := "in p: id int, v int; in q: id int, v int; job a = union p, q; out r = a;"
	m, fail := eval.Run(read(t, s), map[string]api.Table{"p": many(t, api.MaxRows-1), "q": many(t, 1)})
	if fail != fine || len(m["r"].Rows) != api.MaxRows {
		t.Errorf("%d rows, ends with %v", len(m["r"].Rows), fail)
	}
	fails(t, s, map[string]api.Table{"p": many(t, api.MaxRows), "q": many(t, 1)}, api.ErrFull, 0)
	s = "in p: id int; job a = set p: id = id * -1000; out r = a;"
	m, fail = eval.Run(read(t, s), tabs(t, map[string]string{"p": "id:int|1000000|-1000000"}))
	if fail != fine || text(t, m["r"]) != "id:int|-1000000000|1000000000" {
		t.Errorf("%v, ends with %v", m, fail)
	}
	fails(t, s, tabs(t, map[string]string{"p": "id:int|1000000|-1000001"}), api.ErrRange, 0)
}
