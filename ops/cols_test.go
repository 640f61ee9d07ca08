package ops_test

import (
	"math"
	"reflect"
	"testing"

	"foreman/api"
	"foreman/ops"
)

func Test31Sizes(t *testing.T) {
	want := map[int][2]int{
		api.Filter: {1, 1}, api.Set: {1, 1}, api.Project: {1, 1}, api.Sort: {1, 1}, api.Union: {2, 1},
		api.Distinct: {1, 1}, api.Join: {2, 1}, api.Group: {1, 1}, api.Split: {1, 2},
	}
	for _, code := range []int{math.MinInt, -1, 0, 1, 2, 3, 4, 5, 6, 7, 8, 9, 10, 11, math.MaxInt} {
		takes, makes := ops.Sizes(code)
		if got := [2]int{takes, makes}; got != want[code] {
			t.Errorf("Sizes(%d) is %v, want %v", code, got, want[code])
		}
	}
}

// The columns that the cases below speak of.
const (
	wide  = "id:int n:text v:int m:text"
	other = "key:int name:text"
)

// An Arg's kind is told by whether it may stand beside a column of that kind.
func Test31KindOfArg(t *testing.T) {
	zero := api.Value{}
	for _, c := range []struct {
		arg  api.Arg
		kind int
	}{
		{col("id"), api.Int}, {col("v"), api.Int}, {col("n"), api.Text}, {col("zz"), 0}, {col(" "), 0},
		{value(num(0)), api.Int}, {value(num(api.MaxNum)), api.Int}, {value(num(-api.MaxNum)), api.Int}, {value(word("")), api.Text}, {value(word("0123456789abcdef")), api.Text},
		{value(zero), 0}, {value(num(api.MaxNum + 1)), 0}, {value(num(-api.MaxNum - 1)), 0}, {value(word("'")), 0}, {value(word("0123456789abcdefg")), 0},
		{value(api.Value{Kind: api.Int, Word: "a"}), 0}, {value(api.Value{Kind: api.Text, Num: 1}), 0}, {value(api.Value{Kind: 3}), 0}, {value(api.Value{Num: 1}), 0},
		// Both a column and a value is neither.
		{api.Arg{Col: "id", Value: num(1)}, 0}, {api.Arg{Col: "id", Value: num(0)}, 0}, {api.Arg{Col: "n", Value: word("")}, 0}, {api.Arg{Col: "id", Value: api.Value{Num: 1}}, 0}, {api.Arg{Col: "id", Value: api.Value{Word: "a"}}, 0}, {api.Arg{Col: "zz", Value: num(1)}, 0},
	} {
		ins := heads(tabs(t, wide))
		asked := func(what string, kind int, j api.Job) {
			t.Helper()
			want := api.ErrFalse
			if c.kind == kind {
				want = api.OK
			}
			_, err := ops.Cols(j, ins)
			if api.Tell(err) != want {
				t.Errorf("%s %v: error %v, want %v", what, c.arg, err, want)
			}
		}
		asked("filter an int by", api.Int, filter("id", "=", c.arg))
		asked("filter a text by", api.Text, filter("n", "=", c.arg))
		asked("split an int by", api.Int, split("id", "<", c.arg))
		asked("split a text by", api.Text, split("n", ">", c.arg))
		asked("set, at the left,", api.Int, set("v", c.arg, "+", value(num(1))))
		asked("set, at the right,", api.Int, set("v", value(num(1)), "*", c.arg))
	}
}

// noJob are wrong jobs, and what is told of them, by their columns alone.
var noJob = []struct {
	name string
	job  api.Job
	ins  []string
	want api.Errno
}{
	{"filter: no comparison", filter("id", "+", value(num(1))), []string{wide}, api.ErrArg},
	{"filter: ==", filter("id", "==", value(num(1))), []string{wide}, api.ErrArg},
	{"filter: !=", filter("id", "!=", value(num(1))), []string{wide}, api.ErrArg},
	{"filter: nothing", filter("id", "", value(num(1))), []string{wide}, api.ErrArg},
	{"filter: no comparison, no column", filter("zz", "=>", value(word("a"))), []string{wide}, api.ErrArg},
	{"filter: no left column", filter("", "=", value(num(1))), []string{wide}, api.ErrArg},
	{"filter: a value at the left", one(api.Job{Code: api.Filter, Left: value(num(1)), Op: "=", Right: col("id")}), []string{wide}, api.ErrArg},
	{"filter: missing", filter("zz", "=", value(num(1))), []string{wide}, api.ErrMissing},
	{"filter: missing, and of no kind", filter("zz", "=", value(api.Value{})), []string{wide}, api.ErrMissing},
	{"filter: another kind", filter("id", "=", value(word("1"))), []string{wide}, api.ErrFalse},
	{"filter: a column of another kind", filter("id", "=", col("n")), []string{wide}, api.ErrFalse},
	{"filter: a column that is not there", filter("id", "=", col("zz")), []string{wide}, api.ErrFalse},
	{"split: no comparison", split("id", "sum", value(num(1))), []string{wide}, api.ErrArg},
	{"split: no left column", split("", "=", value(num(1))), []string{wide}, api.ErrArg},
	{"split: missing", split("zz", "<=", value(num(1))), []string{wide}, api.ErrMissing},
	{"split: another kind", split("n", ">=", value(num(1))), []string{wide}, api.ErrFalse},

	{"set: no column", set("", col("id"), "+", col("v")), []string{wide}, api.ErrArg},
	{"set: two columns", set("id v", col("id"), "+", col("v")), []string{wide}, api.ErrArg},
	{"set: no operation", set("id", col("id"), "=", col("v")), []string{wide}, api.ErrArg},
	{"set: a division", set("id", col("id"), "/", col("v")), []string{wide}, api.ErrArg},
	{"set: no operation, no column", set("zz", col("id"), "", col("n")), []string{wide}, api.ErrArg},
	{"set: missing", set("zz", col("id"), "+", col("v")), []string{wide}, api.ErrMissing},
	{"set: missing, and a text", set("zz", col("n"), "+", col("n")), []string{wide}, api.ErrMissing},
	{"set: a text", set("n", col("id"), "+", col("v")), []string{wide}, api.ErrFalse},
	{"set: a text at the left", set("id", col("n"), "+", col("v")), []string{wide}, api.ErrFalse},
	{"set: a text at the right", set("id", col("v"), "+", value(word("a"))), []string{wide}, api.ErrFalse},
	{"set: texts all", set("n", col("n"), "+", col("m")), []string{wide}, api.ErrFalse},

	{"project: none", project(""), []string{wide}, api.ErrArg},
	{"project: seven", project("id n v m id n v"), []string{wide}, api.ErrArg},
	{"project: seven that are not there", project("a b c d e f g"), []string{wide}, api.ErrArg},
	{"project: missing", project("id zz"), []string{wide}, api.ErrMissing},
	{"project: twice", project("id n id"), []string{wide}, api.ErrTwice},
	{"project: missing, then twice", project("zz id id"), []string{wide}, api.ErrMissing},
	{"project: twice, then missing", project("id id zz"), []string{wide}, api.ErrTwice},
	{"project: missing twice", project("zz zz"), []string{wide}, api.ErrMissing},
	{"sort: none", sortBy(""), []string{wide}, api.ErrArg},
	{"sort: seven", sortBy("id n v m id n v"), []string{wide}, api.ErrArg},
	{"sort: missing", sortBy("id zz"), []string{wide}, api.ErrMissing},
	{"sort: twice", sortBy("id n id"), []string{wide}, api.ErrTwice},
	{"sort: twice, then missing", sortBy("id id zz"), []string{wide}, api.ErrTwice},

	{"union: other names", union(), []string{"a:int b:int", "a:int c:int"}, api.ErrFalse},
	{"union: other kinds", union(), []string{"a:int b:int", "a:int b:text"}, api.ErrFalse},
	{"union: in another order", union(), []string{"a:int b:int", "b:int a:int"}, api.ErrFalse},
	{"union: the first one less", union(), []string{"a:int", "a:int b:int"}, api.ErrFalse},
	{"union: the second one less", union(), []string{"a:int b:int", "a:int"}, api.ErrFalse},

	{"join: none", join(""), []string{wide, other}, api.ErrArg},
	{"join: one", join("id"), []string{wide, other}, api.ErrArg},
	{"join: three", join("id key v"), []string{wide, other}, api.ErrArg},
	{"join: three that are not there", join("x y z"), []string{wide, other}, api.ErrArg},
	{"join: the first is missing", join("key key"), []string{wide, other}, api.ErrMissing},
	{"join: the second is missing", join("id id"), []string{wide, other}, api.ErrMissing},
	{"join: missing, though the other one is of another kind", join("n zz"), []string{wide, other}, api.ErrMissing},
	{"join: two kinds", join("id name"), []string{wide, other}, api.ErrFalse},
	{"join: two kinds, and alike", join("id n"), []string{wide, "id:int n:text"}, api.ErrFalse},
	{"join: alike", join("id key"), []string{wide, "key:int v:int"}, api.ErrTwice},
	{"join: alike, of two kinds", join("id key"), []string{wide, "key:int v:text"}, api.ErrTwice},
	{"join: alike with the first one's", join("id key"), []string{wide, "key:int id:int"}, api.ErrTwice},
	{"join: alike, and too many", join("id key"), []string{wide, "key:int a:int b:int m:int"}, api.ErrTwice},
	{"join: seven", join("id key"), []string{wide, "key:int a:int b:int c:int"}, api.ErrLimit},
	{"join: eleven", join("a g"), []string{"a:int b:int c:int d:int e:int f:int", "g:int h:int i:int j:int k:int l:int"}, api.ErrLimit},

	{"group: none", group("sum", ""), []string{wide}, api.ErrArg},
	{"group: one", group("sum", "id"), []string{wide}, api.ErrArg},
	{"group: three", group("max", "id v n"), []string{wide}, api.ErrArg},
	{"group: min", group("min", "n v"), []string{wide}, api.ErrArg},
	{"group: nothing", group("", "n v"), []string{wide}, api.ErrArg},
	{"group: min, and missing", group("min", "zz zz"), []string{wide}, api.ErrArg},
	{"group: the first is missing", group("sum", "zz v"), []string{wide}, api.ErrMissing},
	{"group: the second is missing", group("max", "n zz"), []string{wide}, api.ErrMissing},
	{"group: the first is missing, the second a text", group("max", "zz n"), []string{wide}, api.ErrMissing},
	{"group: a text", group("max", "id n"), []string{wide}, api.ErrFalse},
	{"group: one text twice", group("sum", "n n"), []string{wide}, api.ErrFalse},
	{"group: one number twice", group("sum", "id id"), []string{wide}, api.ErrTwice},
}

func Test32Wrong(t *testing.T) {
	for _, c := range noJob {
		ins := tabs(t, c.ins...)
		got, err := ops.Cols(c.job, heads(ins))
		bare(t, c.name, err, c.want)
		if got != nil {
			t.Errorf("%s: %v beside its error", c.name, got)
		}
		tables, err := ops.Do(c.job, ins)
		bare(t, "Do: "+c.name, err, c.want)
		if tables != nil {
			t.Errorf("Do: %s: %v beside its error", c.name, tables)
		}
	}
}

// rightJobs are jobs that may be, of two tables of columns wide, or of wide and other.
func rightJobs() map[int]api.Job {
	return map[int]api.Job{
		api.Filter: filter("id", "=", value(num(1))), api.Set: set("v", col("id"), "+", col("v")), api.Project: project("n"),
		api.Sort: sortBy("n"), api.Union: union(), api.Distinct: distinct(), api.Join: join("id key"), api.Group: group("sum", "n v"),
		api.Split: split("id", "=", value(num(1))),
	}
}

// How many tables come in, and go out, is told ahead of all else.
func Test32HowMany(t *testing.T) {
	for code, j := range rightJobs() {
		second := wide
		if code == api.Join {
			second = other
		}
		three := tabs(t, wide, second, wide)
		takes, makes := ops.Sizes(code)
		for n := range 4 {
			for m := range 4 {
				want := api.ErrArg
				if n == takes && m == makes {
					want = api.OK
				}
				j.Outs = names("x y z")[:m]
				_, err := ops.Cols(j, heads(three[:n]))
				bare(t, "Cols", err, want)
				_, err = ops.Do(j, three[:n])
				bare(t, "Do", err, want)
			}
		}
		// What is wrong beside it is not told.
		j.Outs, j.Op, j.Cols = nil, "none", names("zz zz")
		_, err := ops.Cols(j, heads(three[:takes]))
		bare(t, "Cols", err, api.ErrArg)
	}
}

func Test32NoSuchCode(t *testing.T) {
	for _, code := range []int{math.MinInt, -1, 0, 10, math.MaxInt} {
		for n := range 3 {
			for m := range 3 {
				j := api.Job{Code: code, Outs: names("x y")[:m]}
				ins := tabs(t, wide, wide)[:n]
				_, err := ops.Cols(j, heads(ins))
				bare(t, "Cols", err, api.ErrArg)
				_, err = ops.Do(j, ins)
				bare(t, "Do", err, api.ErrArg)
			}
		}
	}
}

func Test32Cols(t *testing.T) {
	six := "a:int b:text c:int d:int e:int f:int"
	for _, c := range []struct {
		name string
		job  api.Job
		ins  []string
		outs []string
	}{
		{"filter", filter("id", "<>", col("v")), []string{wide}, []string{wide}},
		{"split", split("n", "<>", col("m")), []string{wide}, []string{wide, wide}},
		{"set", set("id", value(num(2)), "-", col("v")), []string{wide}, []string{wide}},
		{"project one", project("v"), []string{wide}, []string{"v:int"}},
		{"project in another order", project("m v id"), []string{wide}, []string{"m:text v:int id:int"}},
		{"project six", project("f e d c b a"), []string{six}, []string{"f:int e:int d:int c:int b:text a:int"}},
		{"sort", sortBy("m id"), []string{wide}, []string{wide}},
		{"sort by six", sortBy("f e d c b a"), []string{six}, []string{six}},
		{"union", union(), []string{wide, wide}, []string{wide}},
		{"distinct", distinct(), []string{six}, []string{six}},
		{"join", join("id key"), []string{wide, other}, []string{wide + " name:text"}},
		{"join by the last one", join("n name"), []string{wide, other}, []string{wide + " key:int"}},
		{"join by one in between", join("a y"), []string{"a:int", "x:int y:int z:text"}, []string{"a:int x:int z:text"}},
		{"join by columns that are called alike", join("id id"), []string{"id:int a:text", "b:text id:int"}, []string{"id:int a:text b:text"}},
		{"join to six", join("id key"), []string{wide, "a:int key:int b:text"}, []string{wide + " a:int b:text"}},
		{"join six with one", join("c x"), []string{six, "x:int"}, []string{six}},
		{"group", group("sum", "n v"), []string{wide}, []string{"n:text v:int"}},
		{"group, the second one ahead", group("max", "v id"), []string{wide}, []string{"v:int id:int"}},
	} {
		got, err := ops.Cols(c.job, heads(tabs(t, c.ins...)))
		if want := heads(tabs(t, c.outs...)); !reflect.DeepEqual(got, want) || err != nil {
			t.Errorf("%s: %v, %v, want %v", c.name, got, err, want)
		}
	}
}

// All comparisons and operations that there are may be.
func Test32Words(t *testing.T) {
	ins := heads(tabs(t, wide))
	for _, op := range names("= <> < <= > >=") {
		for _, j := range []api.Job{filter("id", op, col("v")), split("n", op, value(word("a")))} {
			_, err := ops.Cols(j, ins)
			bare(t, op, err, api.OK)
		}
	}
	for _, op := range names("+ - *") {
		_, err := ops.Cols(set("id", col("v"), op, value(num(-1))), ins)
		bare(t, op, err, api.OK)
	}
	for _, op := range names("sum max") {
		_, err := ops.Cols(group(op, "id v"), ins)
		bare(t, op, err, api.OK)
	}
}
