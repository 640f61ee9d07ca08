package flow_test

import (
	"math"
	"reflect"
	"slices"
	"strings"
	"testing"

	"foreman/api"
	"foreman/flow"
)

// told is what whole tells, but where its parts begin.
func told() api.Flow {
	return api.Flow{
		Ins: []api.Input{
			{Name: "p", Cols: []api.Column{{Name: "id", Kind: api.Int}, {Name: "n", Kind: api.Text}}},
			{Name: "q", Cols: []api.Column{{Name: "w", Kind: api.Int}}},
		},
		Jobs: []api.Job{
			{Code: api.Filter, Outs: names("a"), Ins: names("p"), Left: col("id"), Op: ">=", Right: value(num(-3))},
			{Code: api.Split, Outs: names("b bx"), Ins: names("p"), Left: col("n"), Op: "=", Right: value(word("a b")), Retry: 5},
			{Code: api.Set, Outs: names("c"), Ins: names("p"), Cols: names("id"), Left: col("id"), Op: "*", Right: value(num(2))},
			{Code: api.Project, Outs: names("d"), Ins: names("c"), Cols: names("n id")},
			{Code: api.Sort, Outs: names("e"), Ins: names("d"), Cols: names("id")},
			{Code: api.Union, Outs: names("f"), Ins: names("e a")},
			{Code: api.Distinct, Outs: names("g"), Ins: names("f")},
			{Code: api.Join, Outs: names("h"), Ins: names("g q"), Cols: names("id w")},
			{Code: api.Group, Outs: names("i"), Ins: names("h"), Cols: names("n id"), Op: "sum"},
			{Code: api.Group, Outs: names("j"), Ins: names("h"), Cols: names("w id"), Op: "max"},
		},
		Outs: []api.Publish{{Name: "r", From: "i"}, {Name: "s", From: "bx"}},
	}
}

func Test42Parse(t *testing.T) {
	f := read(t, whole)
	if got, want := without(f), told(); !reflect.DeepEqual(got, want) {
		t.Errorf("%v, want %v", got, want)
	}
	for _, in := range f.Ins {
		begins(t, whole, in.At, "in "+in.Name+":")
	}
	for _, j := range f.Jobs {
		begins(t, whole, j.At, "job "+j.Outs[0])
	}
	for _, out := range f.Outs {
		begins(t, whole, out.At, "out "+out.Name)
	}
	ats := func(s string) []int {
		f := read(t, s)
		return []int{f.Ins[0].At, f.Jobs[0].At, f.Outs[0].At}
	}
	if got, want := ats("\n in in:in int;job job=distinct job; \n  out out=out;"), []int{2, 15, 40}; !slices.Equal(got, want) {
		t.Errorf("parts begin at %v, want %v", got, want)
	}
}

// begins asks that these words stand at a byte of a text.
func begins(t *testing.T, s string, at int, words string) {
	t.Helper()
	if at < 0 || at > len(s) || !strings.HasPrefix(s[at:], words) {
		t.Errorf("%q: %q does not begin at %d", s, words, at)
	}
}

// Each CMP, OP and ARG is told as it stands there.
func Test42OpsAndArgs(t *testing.T) {
	args := map[string]api.Arg{"id": col("id"), "where": col("where"), "5": value(num(5)), "- 5": value(num(-5)), "'it'": value(word("it")), "''": value(word(""))}
	for text, arg := range args {
		for _, op := range names("= <> < <= > >=") {
			want := api.Job{Code: api.Filter, Outs: names("a"), Ins: names("b"), Left: col("c"), Op: op, Right: arg}
			one(t, "job a = filter b where c "+op+" "+text+";", want)
			want.Code = api.Split
			one(t, "job a = split b where c "+op+" "+text+";", want)
		}
		for _, op := range names("+ - *") {
			for second, right := range args {
				want := api.Job{Code: api.Set, Outs: names("a"), Ins: names("b"), Cols: names("c"), Left: arg, Op: op, Right: right}
				one(t, "job a = set b: c = "+text+" "+op+" "+second+";", want)
			}
		}
	}
}

// one asks that a text tells this job.
func one(t *testing.T, s string, want api.Job) {
	t.Helper()
	f := read(t, s)
	if len(f.Jobs) != 1 || !reflect.DeepEqual(f.Jobs[0], want) {
		t.Errorf("%q: %v, want %v", s, f.Jobs, want)
	}
}

// Words of the grammar are names as well.
func Test42WordsAsNames(t *testing.T) {
	f := without(read(t, "in in: int int, text text; job retry, job retry 2 = group by by by max max; job retry = union where, split; out job = out;"))
	want := api.Flow{
		Ins: []api.Input{{Name: "in", Cols: []api.Column{{Name: "int", Kind: api.Int}, {Name: "text", Kind: api.Text}}}},
		Jobs: []api.Job{
			{Code: api.Group, Outs: names("retry job"), Ins: names("by"), Cols: names("by max"), Op: "max", Retry: 2},
			{Code: api.Union, Outs: names("retry"), Ins: names("where split")},
		},
		Outs: []api.Publish{{Name: "job", From: "out"}},
	}
	if !reflect.DeepEqual(f, want) {
		t.Errorf("%v, want %v", f, want)
	}
}

func Test43Text(t *testing.T) {
	for s, want := range map[string]string{
		"filter p where id>=- 003":        "filter p where id >= -3",
		"filter p where id<>-0":           "filter p where id <> 0",
		"split p where n='a  b, ; : .- '": "split p where n = 'a  b, ; : .- '",
		"split p where n<m":               "split p where n < m",
		"set p:id=id*2":                   "set p: id = id * 2",
		"set p : id = -1 - - 2":           "set p: id = -1 - -2",
		"set p:id=1-2":                    "set p: id = 1 - 2",
		"set p:id='a'+''":                 "set p: id = 'a' + ''",
		"project p by a,b ,c":             "project p by a, b, c",
		"sort p by a":                     "sort p by a",
		"union p,q":                       "union p, q",
		"distinct\np":                     "distinct p",
		"join p . id , q . w":             "join p.id, q.w",
		"group p by a sum b":              "group p by a sum b",
		"group p by a max b":              "group p by a max b",
	} {
		f := read(t, "job a, b retry 3 = "+s+";")
		if got := flow.Text(f.Jobs[0]); got != want {
			t.Errorf("%q: %q, want %q", s, got, want)
		}
	}
}

func Test43Print(t *testing.T) {
	want := strings.Join([]string{
		"in p: id int, n text;", "in q: w int;",
		"job a = filter p where id >= -3;", "job b, bx retry 5 = split p where n = 'a b';",
		"job c = set p: id = id * 2;", "job d = project c by n, id;", "job e = sort d by id;",
		"job f = union e, a;", "job g = distinct f;", "job h = join g.id, q.w;",
		"job i = group h by n sum id;", "job j = group h by w max id;",
		"out r = i;", "out s = bx;", "",
	}, "\n")
	if got := flow.Print(read(t, whole)); got != want {
		t.Errorf("%q, want %q", got, want)
	}
	for s, want := range map[string]string{
		"":                               "",
		"out a=b;":                       "out a = b;\n",
		"in a:b text,c int;":             "in a: b text, c int;\n",
		"job a retry 00 = distinct b;":   "job a = distinct b;\n",
		"job a,b,c retry 01=distinct d;": "job a, b, c retry 1 = distinct d;\n",
	} {
		if got := flow.Print(read(t, s)); got != want {
			t.Errorf("%q: %q, want %q", s, got, want)
		}
	}
	// What is put together of what Parse told has no bound of its own.
	f := read(t, whole)
	for range 20 {
		f.Jobs = append(f.Jobs, f.Jobs[0])
	}
	if got := strings.Count(flow.Print(f), "job a = filter p where id >= -3;\n"); got != 21 {
		t.Errorf("the job stands there %d times, want 21", got)
	}
}

// drawnFlow is a flow that looks drawn, with nothing told twice in another way (-0, a Retry of 0).
func drawnFlow(n func(most int) int) api.Flow {
	name := func() string { return names("a b9 in job out retry where by int abcdefghij")[n(10)] }
	some := func() []string {
		var l []string
		for range 1 + n(4) {
			l = append(l, name())
		}
		return l
	}
	arg := func() api.Arg {
		return []api.Arg{col(name()), value(num(n(2*api.MaxNum+1) - api.MaxNum)), value(num(n(3) - 1)), value(word("")), value(word("- 1, ;~"))}[n(5)]
	}
	var f api.Flow
	for range n(4) {
		in := api.Input{Name: name()}
		for _, c := range some() {
			in.Cols = append(in.Cols, api.Column{Name: c, Kind: 1 + n(2)})
		}
		f.Ins = append(f.Ins, in)
	}
	for range n(9) {
		j := api.Job{Code: 1 + n(9), Outs: some(), Ins: []string{name()}, Retry: n(api.MaxRetry + 1)}
		switch j.Code {
		case api.Filter, api.Split:
			j.Left, j.Op, j.Right = col(name()), names("= <> < <= > >=")[n(6)], arg()
		case api.Set:
			j.Cols, j.Left, j.Op, j.Right = []string{name()}, arg(), names("+ - *")[n(3)], arg()
		case api.Project, api.Sort:
			j.Cols = some()
		case api.Union:
			j.Ins = append(j.Ins, name())
		case api.Join:
			j.Ins, j.Cols = append(j.Ins, name()), []string{name(), name()}
		case api.Group:
			j.Cols, j.Op = []string{name(), name()}, names("sum max")[n(2)]
		}
		f.Jobs = append(f.Jobs, j)
	}
	for range n(4) {
		f.Outs = append(f.Outs, api.Publish{Name: name(), From: name()})
	}
	return f
}

// What is written is read as it was.
func Test43WrittenIsReadAsItWas(t *testing.T) {
	n := drawn(4)
	for range 3000 {
		f := drawnFlow(n)
		s := flow.Print(f)
		back := read(t, s)
		if got := without(back); !reflect.DeepEqual(got, f) {
			t.Fatalf("%q: %v, want %v", s, got, f)
		}
		for _, in := range back.Ins {
			begins(t, s, in.At, "in "+in.Name+":")
		}
		for _, j := range back.Jobs {
			begins(t, s, j.At, "job "+j.Outs[0])
			begins(t, s[strings.Index(s[j.At:], "= ")+j.At:], 2, flow.Text(j)+";\n")
		}
		for _, out := range back.Outs {
			begins(t, s, out.At, "out "+out.Name+" = "+out.From)
		}
	}
}

// None panics, and each ends, whatever it is given.
func TestP1(t *testing.T) {
	n := drawn(7)
	letters := "abin1 09'<>=+-*,;:.\n\x00\xff"
	for range 20000 {
		b := []byte(whole)
		for range 1 + n(3) {
			b[n(len(b))] = letters[n(len(letters))]
		}
		flow.Parse(string(b[:n(len(b)+1)]))
	}
	for _, s := range []string{" ", "9", "a", "'", "=", "in ", "x'"} {
		flow.Parse(strings.Repeat(s, 1_000_000))
	}
	flow.Parse("job a = filter b where c = " + strings.Repeat("9", 1_000_000) + ";")
	flow.Parse("job a = filter b where c = '" + strings.Repeat("9", 1_000_000) + "';")
	flow.Print(api.Flow{})
	flow.Print(api.Flow{Ins: make([]api.Input, 1), Jobs: make([]api.Job, 1), Outs: make([]api.Publish, 1)})
	for _, kind := range []int{math.MinInt, -1, 0, 3, math.MaxInt} {
		flow.Print(api.Flow{Ins: []api.Input{{Cols: []api.Column{{Kind: kind}}}}})
	}
	for _, code := range []int{math.MinInt, -1, 0, 1, 2, 3, 4, 5, 6, 7, 8, 9, 10, math.MaxInt} {
		for _, retry := range []int{math.MinInt, -1, 0, 9} {
			flow.Print(api.Flow{Jobs: []api.Job{{Code: code, Retry: retry}}})
			flow.Text(api.Job{Code: code, Retry: retry, Ins: names("a"), Cols: names("b")})
			flow.Text(api.Job{Code: code, Left: value(api.Value{Kind: 9}), Right: value(api.Value{Kind: -1, Word: "'"})})
		}
	}
}

// allLists are all lists of names of a flow.
func allLists(f api.Flow) [][]string {
	var l [][]string
	for _, j := range f.Jobs {
		l = append(l, j.Outs, j.Ins, j.Cols)
	}
	return l
}

// What Parse tells is the caller's: no two lists share memory, and no later answer hangs on what is written into them; Print and Text write into nothing.
func TestP4(t *testing.T) {
	want := read(t, whole)
	f := read(t, whole)
	for _, l := range allLists(f) {
		_ = append(l, "behind")
	}
	for i := range f.Ins {
		_ = append(f.Ins[i].Cols, api.Column{Name: "behind"})
	}
	if !reflect.DeepEqual(f, want) {
		t.Errorf("what is written behind a list's end stands in another one: %v", f)
	}
	text := flow.Print(f)
	for _, j := range f.Jobs {
		flow.Text(j)
	}
	if !reflect.DeepEqual(f, want) {
		t.Errorf("Print, Text changed what they were handed: %v", f)
	}
	for i, l := range allLists(f) {
		for k := range l {
			l[k] = "x"
			others := allLists(f)
			for m := range others {
				if m > i && slices.Contains(others[m], "x") {
					t.Errorf("lists %d and %d share memory", i, m)
				}
			}
		}
	}
	if got := read(t, whole); !reflect.DeepEqual(got, want) || flow.Print(got) != text {
		t.Errorf("the same text tells another flow: %v", got)
	}
}
