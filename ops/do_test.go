package ops_test

import (
	"reflect"
	"strconv"
	"strings"
	"testing"

	"foreman/api"
	"foreman/ops"
)

const people = "id:int n:text v:int|3 'b' 1|1 'a b' 1|2 'b' -5|1 '' 1|3 'b' 1|10 'a' 0"

// done are jobs that are done: what goes in, what comes out.
var done = []struct {
	name string
	job  api.Job
	ins  []string
	outs []string
}{
	{"filter =", filter("id", "=", value(num(3))), []string{people}, []string{"id:int n:text v:int|3 'b' 1|3 'b' 1"}},
	{"filter <>", filter("id", "<>", value(num(3))), []string{people}, []string{"id:int n:text v:int|1 'a b' 1|2 'b' -5|1 '' 1|10 'a' 0"}},
	{"filter <", filter("id", "<", value(num(2))), []string{people}, []string{"id:int n:text v:int|1 'a b' 1|1 '' 1"}},
	{"filter <=", filter("id", "<=", value(num(2))), []string{people}, []string{"id:int n:text v:int|1 'a b' 1|2 'b' -5|1 '' 1"}},
	{"filter >", filter("id", ">", value(num(3))), []string{people}, []string{"id:int n:text v:int|10 'a' 0"}},
	{"filter >=", filter("id", ">=", value(num(3))), []string{people}, []string{"id:int n:text v:int|3 'b' 1|3 'b' 1|10 'a' 0"}},
	{"filter texts byte by byte", filter("n", "<", value(word("a b"))), []string{people}, []string{"id:int n:text v:int|1 '' 1|10 'a' 0"}},
	{"filter texts that look like numbers", filter("t", "<", value(word("9"))), []string{"t:text|'10'|'9'|'-1'|'91'"}, []string{"t:text|'10'|'-1'"}},
	{"filter by a column", filter("id", "=", col("v")), []string{people}, []string{"id:int n:text v:int|1 'a b' 1|1 '' 1"}},
	{"filter by the same column", filter("id", ">=", col("id")), []string{people}, []string{people}},
	{"filter to nothing", filter("id", "<", col("id")), []string{people}, []string{"id:int n:text v:int"}},
	{"filter nothing", filter("id", "=", col("id")), []string{"id:int"}, []string{"id:int"}},

	{"split", split("v", "=", value(num(1))), []string{people}, []string{"id:int n:text v:int|3 'b' 1|1 'a b' 1|1 '' 1|3 'b' 1", "id:int n:text v:int|2 'b' -5|10 'a' 0"}},
	{"split by a column", split("id", "<=", col("v")), []string{people}, []string{"id:int n:text v:int|1 'a b' 1|1 '' 1", "id:int n:text v:int|3 'b' 1|2 'b' -5|3 'b' 1|10 'a' 0"}},
	{"split, all in the second", split("n", ">", value(word("c"))), []string{people}, []string{"id:int n:text v:int", people}},
	{"split nothing", split("id", "=", value(num(1))), []string{"id:int"}, []string{"id:int", "id:int"}},

	{"set +", set("v", col("id"), "+", col("v")), []string{"id:int v:int|1 2|-3 4"}, []string{"id:int v:int|1 3|-3 1"}},
	{"set -", set("v", col("id"), "-", col("v")), []string{"id:int v:int|1 2|-3 4"}, []string{"id:int v:int|1 -1|-3 -7"}},
	{"set *", set("v", col("id"), "*", col("v")), []string{"id:int v:int|1 2|-3 4|0 -7"}, []string{"id:int v:int|1 2|-3 -12|0 0"}},
	{"set by itself twice", set("v", col("v"), "*", col("v")), []string{"id:int v:int|1 2|-3 -4"}, []string{"id:int v:int|1 4|-3 16"}},
	{"set a number less a column", set("id", value(num(10)), "-", col("id")), []string{people}, []string{"id:int n:text v:int|7 'b' 1|9 'a b' 1|8 'b' -5|9 '' 1|7 'b' 1|0 'a' 0"}},
	{"set two numbers", set("id", value(num(2)), "*", value(num(3))), []string{"id:int|1|2"}, []string{"id:int|6|6"}},
	{"set to the edges", set("v", col("v"), "*", value(num(-1))), []string{"v:int|1000000000|-1000000000"}, []string{"v:int|-1000000000|1000000000"}},
	{"set nothing, though it would be too great", set("v", value(num(api.MaxNum)), "*", value(num(2))), []string{"v:int"}, []string{"v:int"}},

	{"project", project("v id"), []string{people}, []string{"v:int id:int|1 3|1 1|-5 2|1 1|1 3|0 10"}},
	{"project nothing", project("v"), []string{"id:int v:text"}, []string{"v:text"}},

	{"sort", sortBy("id"), []string{people}, []string{"id:int n:text v:int|1 'a b' 1|1 '' 1|2 'b' -5|3 'b' 1|3 'b' 1|10 'a' 0"}},
	{"sort by two", sortBy("v n"), []string{people}, []string{"id:int n:text v:int|2 'b' -5|10 'a' 0|1 '' 1|1 'a b' 1|3 'b' 1|3 'b' 1"}},
	{"sort by the same two, the other one first", sortBy("n v"), []string{people}, []string{"id:int n:text v:int|1 '' 1|10 'a' 0|1 'a b' 1|2 'b' -5|3 'b' 1|3 'b' 1"}},
	{"sort: what is alike stays", sortBy("v"), []string{"v:int k:int|1 9|0 5|1 3|0 7|1 6|0 1"}, []string{"v:int k:int|0 5|0 7|0 1|1 9|1 3|1 6"}},
	{"sort texts byte by byte", sortBy("t"), []string{"t:text|'b'|'a b'|'~'|'B'|'a'|'10'|'9'|''"}, []string{"t:text|''|'10'|'9'|'B'|'a'|'a b'|'b'|'~'"}},

	{"union", union(), []string{"a:int b:text|2 'x'|1 'y'", "a:int b:text|2 'x'|0 ''"}, []string{"a:int b:text|2 'x'|1 'y'|2 'x'|0 ''"}},
	{"union with nothing", union(), []string{"a:int", "a:int|1"}, []string{"a:int|1"}},

	{"distinct", distinct(), []string{people}, []string{"id:int n:text v:int|3 'b' 1|1 'a b' 1|2 'b' -5|1 '' 1|10 'a' 0"}},
	{"distinct: texts that look alike side by side", distinct(), []string{"a:text b:text|'a b' 'c'|'a' 'b c'|'' 'a'|'a' ''|'a b' 'c'"}, []string{"a:text b:text|'a b' 'c'|'a' 'b c'|'' 'a'|'a' ''"}},
	{"distinct: numbers that look alike side by side", distinct(), []string{"a:int b:int|1 11|11 1|1 1|1 -1|-1 1|1 11"}, []string{"a:int b:int|1 11|11 1|1 1|1 -1|-1 1"}},

	{"join", join("id key"), []string{"id:int n:text|2 'x'|1 'y'|3 'z'|1 'w'", "key:int m:text|1 'p'|2 'q'|1 'r'|4 's'"}, []string{"id:int n:text m:text|2 'x' 'q'|1 'y' 'p'|1 'y' 'r'|1 'w' 'p'|1 'w' 'r'"}},
	{"join by texts, one in between", join("n k"), []string{"n:text|'a'|''|'b'", "x:int k:text y:int|1 '' 2|3 'a' 4|5 'A' 6"}, []string{"n:text x:int y:int|'a' 3 4|'' 1 2"}},
	{"join with its own column alone", join("a b"), []string{"a:int|1|2|3", "b:int|3|1|3"}, []string{"a:int|1|3|3"}},
	{"join to nothing", join("a b"), []string{"a:int|1|2|3", "b:int c:int"}, []string{"a:int c:int"}},

	{"group sum", group("sum", "n v"), []string{people}, []string{"n:text v:int|'' 1|'a' 0|'a b' 1|'b' -3"}},
	{"group max", group("max", "n v"), []string{people}, []string{"n:text v:int|'' 1|'a' 0|'a b' 1|'b' 1"}},
	{"group by numbers", group("sum", "k v"), []string{"v:int k:int|1 10|2 9|4 -1|8 10"}, []string{"k:int v:int|-1 4|9 2|10 9"}},
	{"group: the greatest of those below 0", group("max", "k v"), []string{"k:int v:int|1 -5|1 -3|1 -4"}, []string{"k:int v:int|1 -3"}},
	{"group: a sum that was too great in between", group("sum", "k v"), []string{"k:int v:int|1 1000000000|1 1000000000|1 -1000000000"}, []string{"k:int v:int|1 1000000000"}},
	{"group: a sum that was too small in between", group("sum", "k v"), []string{"k:int v:int|1 -1000000000|1 -1|1 1"}, []string{"k:int v:int|1 -1000000000"}},
	{"group: the greatest of what would be too great a sum", group("max", "k v"), []string{"k:int v:int|1 1000000000|1 1000000000"}, []string{"k:int v:int|1 1000000000"}},
	{"group nothing", group("sum", "k v"), []string{"k:int v:int"}, []string{"k:int v:int"}},
}

func Test33Do(t *testing.T) {
	for _, c := range done {
		got, err := ops.Do(c.job, tabs(t, c.ins...))
		if err != nil {
			t.Errorf("%s: %v", c.name, err)
			continue
		}
		if l := texts(t, got); !reflect.DeepEqual(l, c.outs) {
			t.Errorf("%s: %q, want %q", c.name, l, c.outs)
		}
	}
}

func Test33Range(t *testing.T) {
	for _, c := range []struct {
		name string
		job  api.Job
		in   string
	}{
		{"+ above", set("v", col("v"), "+", value(num(1))), "v:int|1000000000"},
		{"+ below", set("v", col("v"), "+", value(num(-1))), "v:int|-1000000000"},
		{"- below", set("v", col("v"), "-", value(num(1))), "v:int|-1000000000"},
		{"- above", set("v", value(num(1)), "-", col("v")), "v:int|-1000000000"},
		{"* above", set("v", col("v"), "*", value(num(2))), "v:int|500000001"},
		{"* below", set("v", col("v"), "*", value(num(-2))), "v:int|500000001"},
		{"* of which 32 bits are 0", set("v", col("v"), "*", col("v")), "v:int|65536"},
		{"* far above", set("v", col("v"), "*", col("v")), "v:int|1000000000"},
		{"* far below", set("v", col("v"), "*", value(num(api.MaxNum))), "v:int|-1000000000"},
		{"in the last row", set("v", col("v"), "+", value(num(1))), "v:int|1|2|1000000000"},
		{"a sum above", group("sum", "k v"), "k:int v:int|1 1000000000|1 1"},
		{"a sum below", group("sum", "k v"), "k:int v:int|1 -1000000000|1 -1"},
		{"a sum of the last group", group("sum", "k v"), "k:text v:int|'b' 1000000000|'a' 1|'b' 1000000000"},
	} {
		got, err := ops.Do(c.job, tabs(t, c.in))
		bare(t, c.name, err, api.ErrRange)
		if got != nil {
			t.Errorf("%s: %v beside its error", c.name, got)
		}
	}
}

// rising is a text of a table: one column, so many rows, from this number on.
func rising(name string, rows, from int) string {
	s := name + ":int"
	for i := range rows {
		s += "|" + strconv.Itoa(from+i)
	}
	return s
}

// same is a text of a table: one column, so many rows that are alike.
func same(name string, rows int) string {
	return name + ":int" + strings.Repeat("|1", rows)
}

func Test33Full(t *testing.T) {
	for _, c := range []struct {
		name string
		job  api.Job
		a, b string
		rows int // -1: it is full
	}{
		{"union of 60", union(), rising("a", 30, 0), rising("a", 30, 30), 60},
		{"union of 60 and none", union(), rising("a", 60, 0), rising("a", 0, 0), 60},
		{"union of 61", union(), rising("a", 30, 0), rising("a", 31, 30), -1},
		{"union of 60 and one that is there", union(), rising("a", 60, 0), rising("a", 1, 0), -1},
		{"union of 120", union(), rising("a", 60, 0), rising("a", 60, 0), -1},
		{"join of 60", join("a b"), same("a", 6), same("b", 10), 60},
		{"join of 60 that are there once", join("a b"), rising("a", 60, 0), rising("b", 60, 0), 60},
		{"join of 60 of two values", join("a b"), "a:int|1|2", same("b", 59) + "|2", 60},
		{"join of 61 of two values", join("a b"), "a:int|1|2|2", same("b", 59) + "|2", -1},
		{"join of 64", join("a b"), same("a", 8), same("b", 8), -1},
		{"join of 62", join("a b"), same("a", 2), same("b", 31), -1},
		{"join of 3600", join("a b"), same("a", 60), same("b", 60), -1},
	} {
		got, err := ops.Do(c.job, tabs(t, c.a, c.b))
		if c.rows < 0 {
			bare(t, c.name, err, api.ErrFull)
			if got != nil {
				t.Errorf("%s: %v beside its error", c.name, got)
			}
			continue
		}
		if err != nil || len(got) != 1 || len(got[0].Rows) != c.rows {
			t.Errorf("%s: %v, %v, want %d rows", c.name, got, err, c.rows)
		}
	}
	for code, j := range rightJobs() {
		if takes, _ := ops.Sizes(code); takes == 1 {
			x := tab(t, "id:int n:text v:int m:text"+strings.Repeat("|1 'a' 2 ''", api.MaxRows))
			_, err := ops.Do(j, []api.Table{x})
			bare(t, "60 rows", err, api.OK)
		}
	}
}

// A table that is not right is told ahead of all else, whichever of them it is.
func Test33NotRight(t *testing.T) {
	cols := []api.Column{{Name: "id", Kind: api.Int}}
	spoilt := []api.Table{
		{}, {Cols: []api.Column{{Name: "ID", Kind: api.Int}}}, {Cols: []api.Column{{Name: "id", Kind: 3}}}, {Cols: append(cols, cols...)},
		{Cols: cols, Rows: [][]api.Value{nil}}, {Cols: cols, Rows: [][]api.Value{{num(1), num(2)}}}, {Cols: cols, Rows: [][]api.Value{{word("a")}}},
		{Cols: cols, Rows: [][]api.Value{{num(1)}, {num(api.MaxNum + 1)}}}, {Cols: cols, Rows: make([][]api.Value, api.MaxRows+1)},
	}
	right := tab(t, "id:int|1")
	for i, x := range spoilt {
		for _, c := range []struct {
			name string
			job  api.Job
			ins  []api.Table
		}{
			{"filter", filter("zz", "=", value(num(1))), []api.Table{x}},
			{"split", split("zz", "=", value(num(1))), []api.Table{x}},
			{"set", set("zz", col("id"), "+", col("id")), []api.Table{x}},
			{"project", project("id id"), []api.Table{x}},
			{"sort", sortBy("zz"), []api.Table{x}},
			{"distinct", distinct(), []api.Table{x}},
			{"group", group("sum", "id id"), []api.Table{x}},
			{"union, the first", union(), []api.Table{x, right}},
			{"union, the second", union(), []api.Table{right, x}},
			{"join, the first", join("zz zz"), []api.Table{x, right}},
			{"join, the second", join("zz zz"), []api.Table{right, x}},
		} {
			got, err := ops.Do(c.job, c.ins)
			bare(t, c.name+" of spoilt table "+strconv.Itoa(i), err, api.ErrArg)
			if got != nil {
				t.Errorf("%s: %v beside its error", c.name, got)
			}
		}
	}
}

// What a code does not speak of is not looked at.
func Test33OtherFields(t *testing.T) {
	more := api.Job{At: -1, Ins: names("a b c"), Retry: -7}
	for _, c := range done {
		j := c.job
		j.At, j.Ins, j.Retry = more.At, more.Ins, more.Retry
		if j.Code == api.Union || j.Code == api.Distinct {
			j.Cols, j.Op, j.Left, j.Right = names("zz zz"), "none", col("zz"), value(num(api.MaxNum+1))
		}
		if j.Code == api.Filter || j.Code == api.Split {
			j.Cols = names("zz zz")
			j.Left.Value = num(api.MaxNum + 1)
		}
		got, err := ops.Do(j, tabs(t, c.ins...))
		if err != nil || !reflect.DeepEqual(texts(t, got), c.outs) {
			t.Errorf("%s: %v, %v, want %q", c.name, got, err, c.outs)
		}
	}
}
