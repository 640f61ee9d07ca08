package ops_test

import (
	"fmt"
	"math"
	"reflect"
	"slices"
	"sort"
	"strings"
	"testing"

	"foreman/api"
	"foreman/ops"
	"foreman/table"
)

// some is a right table of columns, with at most so many rows.
func some(draw func(int) int, head string, rows int) api.Table {
	x, err := table.Parse(head + "\n")
	if err != nil {
		panic(err)
	}
	for range draw(rows + 1) {
		var r []api.Value
		for _, c := range x.Cols {
			if c.Kind == api.Int {
				r = append(r, num([]int{0, 1, 2, 3, -1, -2, 7, 10}[draw(8)]))
			} else {
				r = append(r, word([]string{"", " ", "a", "b", "a b", "A"}[draw(6)]))
			}
		}
		x.Rows = append(x.Rows, r)
	}
	return x
}

// mustDo is what a job makes, if it may.
func mustDo(t *testing.T, j api.Job, ins ...api.Table) []api.Table {
	t.Helper()
	got, err := ops.Do(j, ins)
	if err != nil {
		t.Fatalf("%v of %v: %v", j, ins, err)
	}
	cols, err := ops.Cols(j, heads(ins))
	if err != nil || !reflect.DeepEqual(cols, heads(got)) {
		t.Fatalf("%v of %v has columns %v, but Cols tells %v, %v", j, ins, heads(got), cols, err)
	}
	return got
}

// lines are texts of a table's rows.
func lines(t *testing.T, x api.Table) []string {
	t.Helper()
	return strings.Split(text(t, x), "|")[1:]
}

// bag are texts of rows of tables, rising.
func bag(t *testing.T, l ...api.Table) []string {
	t.Helper()
	var all []string
	for _, x := range l {
		all = append(all, lines(t, x)...)
	}
	sort.Strings(all)
	return all
}

// alike asks that two lists of texts are the same.
func alike(t *testing.T, what string, got, want []string) {
	t.Helper()
	if !slices.Equal(got, want) {
		t.Fatalf("%s: %q, want %q", what, got, want)
	}
}

// laws are the columns of tables that are drawn.
const laws = "k:int t:text v:int u:text"

// comparison is some filter of a table of these columns.
func comparison(draw func(int) int) api.Job {
	op := names("= <> < <= > >=")[draw(6)]
	if draw(2) == 0 {
		return filter("t", op, []api.Arg{value(word("a")), col("u")}[draw(2)])
	}
	return filter("k", op, []api.Arg{value(num(draw(4) - 1)), col("v")}[draw(2)])
}

// No row is lost: a split's tables have all rows, each in one of them; and what is split, or sorted, is there as often as it was.
func Test33NoRowIsLost(t *testing.T) {
	draw := drawn(1)
	for range 3000 {
		a, b := some(draw, laws, 12), some(draw, laws, 12)
		j := comparison(draw)
		first := mustDo(t, j, a)
		j.Code, j.Outs = api.Split, names("x y")
		two := mustDo(t, j, a)
		alike(t, "split and filter", lines(t, two[0]), lines(t, first[0]))
		alike(t, "split", bag(t, two...), bag(t, a))
		alike(t, "sort", bag(t, mustDo(t, sortBy("v t"), a)...), bag(t, a))
		alike(t, "union", lines(t, mustDo(t, union(), a, b)[0]), append(lines(t, a), lines(t, b)...))
		alike(t, "union of a split, sorted", lines(t, mustDo(t, sortBy("k t v u"), mustDo(t, union(), two...)...)[0]), lines(t, mustDo(t, sortBy("k t v u"), a)[0]))
	}
}

// In a row: what is sorted rises by its columns, and those that are alike stand as they did.
func Test33InARow(t *testing.T) {
	draw := drawn(2)
	for range 3000 {
		a := some(draw, laws+" at:int", 20)
		for i := range a.Rows {
			a.Rows[i][4] = num(i)
		}
		s := mustDo(t, sortBy("t k"), a)[0]
		for i := 1; i < len(s.Rows); i++ {
			x, y := s.Rows[i-1], s.Rows[i]
			switch {
			case x[1] != y[1]:
				if !table.Less(x[1], y[1]) {
					t.Fatalf("%v stands ahead of %v", x, y)
				}
			case x[0] != y[0]:
				if !table.Less(x[0], y[0]) {
					t.Fatalf("%v stands ahead of %v", x, y)
				}
			case x[4].Num >= y[4].Num:
				t.Fatalf("%v stands ahead of %v, but did not", x, y)
			}
		}
	}
}

// Once is enough: what is filtered, sorted or made distinct once more is the same.
func Test33OnceIsEnough(t *testing.T) {
	draw := drawn(3)
	for range 3000 {
		a := some(draw, laws, 20)
		for _, j := range []api.Job{comparison(draw), sortBy("u v"), distinct(), project("k t v u")} {
			x := mustDo(t, j, a)[0]
			alike(t, fmt.Sprint(j), lines(t, mustDo(t, j, x)[0]), lines(t, x))
		}
		narrow := mustDo(t, project("t"), a)[0]
		once := map[string]int{}
		for _, s := range lines(t, narrow) {
			once[s]++
		}
		got := lines(t, mustDo(t, distinct(), narrow)[0])
		if len(got) != len(once) {
			t.Fatalf("distinct of %q is %q", lines(t, narrow), got)
		}
	}
}

// Pairs are counted: a join has a row for each pair that is alike.
func Test33PairsAreCounted(t *testing.T) {
	draw := drawn(4)
	for range 3000 {
		a, b := some(draw, "k:int t:text", 7), some(draw, "x:text y:int", 7)
		var want []string
		for _, x := range a.Rows {
			for _, y := range b.Rows {
				if x[0].Num == y[1].Num {
					want = append(want, table.Value(x[0])+" "+table.Value(x[1])+" "+table.Value(y[0]))
				}
			}
		}
		alike(t, "join", lines(t, mustDo(t, join("k y"), a, b)[0]), want)
	}
}

// Left out first, or last: a filter by a column that stays, and a sort by it, may come ahead of a project, or behind it.
func Test33LeftOutFirstOrLast(t *testing.T) {
	draw := drawn(5)
	for range 3000 {
		a := some(draw, laws, 20)
		less := project("v t k")
		for _, j := range []api.Job{filter("k", "<=", col("v")), filter("t", "<>", value(word("a"))), sortBy("t v"), set("k", col("v"), "*", col("k")), group("sum", "t v"), group("max", "k v")} {
			behind := mustDo(t, j, mustDo(t, less, a)...)[0]
			ahead := mustDo(t, j, a)
			if j.Code != api.Group {
				ahead = mustDo(t, less, ahead...)
			}
			alike(t, fmt.Sprint(j), lines(t, behind), lines(t, ahead[0]))
		}
	}
}

// There and back: what is added is taken away again.
func Test33ThereAndBack(t *testing.T) {
	draw := drawn(6)
	for range 3000 {
		a := some(draw, laws, 20)
		x := []api.Arg{col("v"), value(num(draw(2000) - 1000))}[draw(2)]
		there := mustDo(t, set("k", col("k"), "+", x), a)
		back := mustDo(t, set("k", col("k"), "-", x), there...)
		alike(t, "there and back", lines(t, back[0]), lines(t, a))
	}
}

// A group's rows rise, one for each value; each is the sum, or the greatest one, of a filter by that value.
func Test33GroupsOfFilters(t *testing.T) {
	draw := drawn(7)
	for range 3000 {
		a := some(draw, laws, 20)
		sums, most := mustDo(t, group("sum", "t v"), a)[0], mustDo(t, group("max", "t v"), a)[0]
		all := mustDo(t, sortBy("t"), mustDo(t, distinct(), mustDo(t, project("t"), a)...)...)[0]
		alike(t, "values", lines(t, mustDo(t, project("t"), sums)[0]), lines(t, all))
		alike(t, "values", lines(t, mustDo(t, project("t"), most)[0]), lines(t, all))
		for i, r := range all.Rows {
			sum, greatest := 0, math.MinInt
			for _, x := range mustDo(t, filter("t", "=", value(r[0])), a)[0].Rows {
				sum += x[2].Num
				greatest = max(greatest, x[2].Num)
			}
			if sums.Rows[i][1] != num(sum) || most.Rows[i][1] != num(greatest) {
				t.Fatalf("%v of %v: %v, %v, want %d, %d", r, a, sums.Rows[i], most.Rows[i], sum, greatest)
			}
		}
	}
}

// No call panics, whatever it is given.
func TestP1(t *testing.T) {
	draw := drawn(8)
	name := func() string { return []string{"", "id", "n", "v", "'\n\xff", "abcdefghijk"}[draw(6)] }
	odd := func() api.Value {
		return []api.Value{{}, num(1), word("a"), num(math.MinInt), num(math.MaxInt), word("'\n\xff"), {Kind: 3}, {Kind: -1, Num: 2, Word: "x"}}[draw(8)]
	}
	arg := func() api.Arg { return []api.Arg{{}, col(name()), value(odd()), {Col: name(), Value: odd()}}[draw(4)] }
	for range 100000 {
		j := api.Job{Code: draw(12) - 1, Op: names("= < >= + * sum max ?")[draw(8)], Left: arg(), Right: arg(), Outs: names("x y z")[:draw(4)]}
		for range draw(4) {
			j.Cols = append(j.Cols, name())
		}
		var ins []api.Table
		for range draw(4) {
			var x api.Table
			for range draw(4) {
				x.Cols = append(x.Cols, api.Column{Name: name(), Kind: draw(5) - 1})
			}
			for range draw(3) {
				var r []api.Value
				for range draw(4) {
					r = append(r, odd())
				}
				x.Rows = append(x.Rows, r)
			}
			ins = append(ins, x)
		}
		ops.Sizes(j.Code)
		ops.Cols(j, heads(ins))
		ops.Do(j, ins)
	}
}

// roomy is a table with something behind the length of each of its lists.
func roomy(x api.Table) api.Table {
	y := api.Table{Cols: append(slices.Clone(x.Cols), api.Column{Name: "behind", Kind: 9})[:len(x.Cols)]}
	for _, r := range x.Rows {
		y.Rows = append(y.Rows, append(slices.Clone(r), num(99))[:len(r)])
	}
	y.Rows = append(y.Rows, []api.Value{num(98)})[:len(x.Rows)]
	return y
}

// still asks that a roomy table is as it was.
func still(t *testing.T, what string, got, want api.Table) {
	t.Helper()
	n, rows := len(want.Cols), len(want.Rows)
	whole := text(t, got) == text(t, want) && got.Cols[:n+1][n].Name == "behind" && got.Rows[:rows+1][rows][0] == num(98)
	for _, r := range got.Rows {
		whole = whole && r[:n+1][n] == num(99)
	}
	if !whole {
		t.Errorf("%s wrote into what was handed in, or what it told shares memory with it: %v, want %v", what, got, want)
	}
}

// spoil writes into all of a table, and behind its lists' lengths.
func spoil(x api.Table) {
	for i := range x.Cols {
		x.Cols[i] = api.Column{Name: "spoilt"}
	}
	for _, r := range x.Rows {
		for i := range r[:cap(r)] {
			r[:cap(r)][i] = word("spoilt")
		}
	}
	for i := range x.Rows[:cap(x.Rows)] {
		x.Rows[:cap(x.Rows)][i] = nil
	}
}

// What is handed in is not written into, nor what stands behind its length; what comes out is fresh, and no two tables of it share memory.
func TestP4(t *testing.T) {
	for _, c := range done {
		var ins, were []api.Table
		for _, x := range tabs(t, c.ins...) {
			ins, were = append(ins, roomy(x)), append(were, x)
		}
		j, jobWas := c.job, fmt.Sprint(c.job)
		cols, _ := ops.Cols(j, heads(ins))
		got, err := ops.Do(j, ins)
		if err != nil {
			t.Fatalf("%s: %v", c.name, err)
		}
		for i, x := range got {
			// What was told ahead of it is spoilt by now.
			alike(t, c.name, []string{text(t, x), text(t, api.Table{Cols: cols[i]})}, []string{c.outs[i], text(t, api.Table{Cols: x.Cols})})
			spoil(x)
			spoil(api.Table{Cols: cols[i]})
		}
		for i := range ins {
			still(t, c.name, ins[i], were[i])
		}
		if fmt.Sprint(j) != jobWas {
			t.Errorf("%s: the job was written into", c.name)
		}
		again, err := ops.Do(j, ins)
		if err != nil || !reflect.DeepEqual(texts(t, again), c.outs) {
			t.Errorf("%s, once more: %v, %v, want %q", c.name, again, err, c.outs)
		}
	}
}

// A row that stands in a table twice, or in two tables, is one list: nothing is written into it.
func TestP4RowsThatAreOne(t *testing.T) {
	r := []api.Value{num(1), num(2)}
	x := api.Table{Cols: tab(t, "id:int v:int").Cols, Rows: [][]api.Value{r, r, r}}
	got := mustDo(t, set("id", col("id"), "+", col("v")), x)[0]
	alike(t, "set", lines(t, got), []string{"3 2", "3 2", "3 2"})
	both := mustDo(t, union(), x, x)[0]
	both.Rows[0][0] = num(9)
	alike(t, "union", lines(t, both)[1:], []string{"1 2", "1 2", "1 2", "1 2", "1 2"})
	if r[0] != num(1) {
		t.Errorf("the row was written into: %v", r)
	}
}
