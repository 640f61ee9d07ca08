package ops

import (
	"slices"
	"strings"

	"foreman/api"
	"foreman/table"
)

type row = []api.Value

// rowsOf are the rows of what a job makes, and of the second table, if it is Split; nothing is wrong with its tables and columns.
func rowsOf(j api.Job, ins []api.Table) (first, second []row, err error) {
	a, rows := ins[0].Cols, copied(ins[0].Rows)
	switch j.Code {
	case api.Filter, api.Split:
		first, second = parted(rows, func(r row) bool {
			return holds(j.Op, valueIn(r, a, j.Left), valueIn(r, a, j.Right))
		})
	case api.Set:
		first, err = reckoned(j, a, rows)
	case api.Project:
		first = projected(rows, places(a, j.Cols))
	case api.Sort:
		first = sorted(rows, places(a, j.Cols))
	case api.Union:
		first = slices.Concat(rows, copied(ins[1].Rows))
	case api.Distinct:
		first = distinct(rows)
	case api.Join:
		first = joined(rows, ins[1].Rows, place(a, j.Cols[0]), place(ins[1].Cols, j.Cols[1]))
	case api.Group:
		first, err = grouped(rows, place(a, j.Cols[0]), place(a, j.Cols[1]), j.Op)
	}
	return first, second, err
}

// copied are rows in memory of their own, so that what is told shares none with what was handed in.
func copied(rows []row) []row {
	var l []row
	for _, r := range rows {
		l = append(l, slices.Clone(r))
	}
	return l
}

// valueIn is what an Arg is in a row.
func valueIn(r row, cols []api.Column, x api.Arg) api.Value {
	if x.Col == "" {
		return x.Value
	}
	return r[place(cols, x.Col)]
}

// holds says whether a comparison of two values holds.
func holds(op string, a, b api.Value) bool {
	less, more := table.Less(a, b), table.Less(b, a)
	switch op {
	case "=":
		return !less && !more
	case "<>":
		return less || more
	case "<":
		return less
	case "<=":
		return !more
	case ">":
		return more
	}
	return !less
}

// parted are rows that are such, and all others.
func parted(rows []row, such func(r row) bool) (these, others []row) {
	for _, r := range rows {
		if such(r) {
			these = append(these, r)
		} else {
			others = append(others, r)
		}
	}
	return these, others
}

// number is a number as a value. ErrRange.
func number(n int64) (api.Value, error) {
	if n < -api.MaxNum || n > api.MaxNum {
		return api.Value{}, api.ErrRange
	}
	return api.Value{Kind: api.Int, Num: int(n)}, nil
}

// reckon is what comes of two numbers. (In 64 bits a product of two values does not wrap round.)
func reckon(op string, a, b int64) int64 {
	switch op {
	case "+":
		return a + b
	case "-":
		return a - b
	}
	return a * b
}

// reckoned are rows with one column set, in the memory of those that it is given.
func reckoned(j api.Job, cols []api.Column, rows []row) ([]row, error) {
	at := place(cols, j.Cols[0])
	for _, r := range rows {
		a, b := valueIn(r, cols, j.Left), valueIn(r, cols, j.Right)
		v, err := number(reckon(j.Op, int64(a.Num), int64(b.Num)))
		if err != nil {
			return nil, err
		}
		r[at] = v
	}
	return rows, nil
}

// projected are rows of the columns at these places.
func projected(rows []row, at []int) []row {
	var l []row
	for _, r := range rows {
		l = append(l, picked(r, at))
	}
	return l
}

// sorted are rows by the columns at these places, in the memory of those that it is given.
func sorted(rows []row, at []int) []row {
	slices.SortStableFunc(rows, func(x, y row) int {
		for _, i := range at {
			if table.Less(x[i], y[i]) {
				return -1
			}
			if table.Less(y[i], x[i]) {
				return 1
			}
		}
		return 0
	})
	return rows
}

// textOf tells rows of a table apart: no value's text has a blank but between two '.
func textOf(r row) string {
	var values []string
	for _, v := range r {
		values = append(values, table.Value(v))
	}
	return strings.Join(values, " ")
}

// distinct are rows, each once, where it is first.
func distinct(rows []row) []row {
	seen := map[string]int{}
	var l []row
	for _, r := range rows {
		text := textOf(r)
		if seen[text] == 0 {
			l = append(l, r)
		}
		seen[text]++
	}
	return l
}

// joined are pairs of rows that are alike in the columns at these places, the second row's column left out.
func joined(a, b []row, in, to int) []row {
	var l []row
	for _, x := range a {
		for _, y := range b {
			if x[in] == y[to] {
				l = append(l, beside(x, y, to))
			}
		}
	}
	return l
}

// group is what rows with one value came to.
type group struct {
	key   api.Value
	total int64
}

// grouped is a row for each value of the column by: it, and what the column of comes to.
func grouped(rows []row, by, of int, op string) ([]row, error) {
	var groups []group
	for _, r := range sorted(rows, []int{by}) {
		n := int64(r[of].Num)
		last := len(groups) - 1
		switch {
		case last < 0 || groups[last].key != r[by]:
			groups = append(groups, group{key: r[by], total: n})
		case op == "sum":
			groups[last].total += n
		default:
			groups[last].total = max(groups[last].total, n)
		}
	}
	var l []row
	for _, g := range groups {
		v, err := number(g.total)
		if err != nil {
			return nil, err
		}
		l = append(l, row{g.key, v})
	}
	return l, nil
}
