package ops

import (
	"slices"

	"foreman/api"
	"foreman/table"
)

// none is the kind of an Arg that is neither a column that is there nor a value that may be.
const none = 0

// kindOf is the kind of an Arg.
func kindOf(x api.Arg, cols []api.Column) int {
	if x.Col == "" {
		if !table.RightValue(x.Value) {
			return none
		}
		return x.Value.Kind
	}
	at := place(cols, x.Col)
	if at < 0 || x.Value != (api.Value{}) {
		return none
	}
	return cols[at].Kind
}

// columnsOf are the columns of each table that a job makes, if nothing is wrong with it.
func columnsOf(j api.Job, ins [][]api.Column) []api.Column {
	a := ins[0]
	switch j.Code {
	case api.Project, api.Group:
		return picked(a, places(a, j.Cols))
	case api.Join:
		return beside(a, ins[1], place(ins[1], j.Cols[1]))
	}
	return slices.Clone(a)
}

// wrong is what is wrong with a job on tables of these columns, if they are as many as it takes.
func wrong(j api.Job, ins [][]api.Column) error {
	a := ins[0]
	switch j.Code {
	case api.Filter, api.Split:
		return wrongTest(j, a)
	case api.Set:
		return wrongSet(j, a)
	case api.Project, api.Sort:
		return wrongList(j.Cols, a)
	case api.Union:
		if !slices.Equal(a, ins[1]) {
			return api.ErrFalse
		}
	case api.Join:
		return wrongJoin(j, a, ins[1])
	case api.Group:
		return wrongGroup(j, a)
	}
	return nil
}

// wrongTest is what is wrong with a job that holds a column against something.
func wrongTest(j api.Job, a []api.Column) error {
	if !slices.Contains([]string{"=", "<>", "<", "<=", ">", ">="}, j.Op) || j.Left.Col == "" {
		return api.ErrArg
	}
	at := place(a, j.Left.Col)
	if at < 0 {
		return api.ErrMissing
	}
	if kindOf(j.Right, a) != a[at].Kind {
		return api.ErrFalse
	}
	return nil
}

// wrongSet is what is wrong with a job that sets a column.
func wrongSet(j api.Job, a []api.Column) error {
	if len(j.Cols) != 1 || !slices.Contains([]string{"+", "-", "*"}, j.Op) {
		return api.ErrArg
	}
	at := place(a, j.Cols[0])
	if at < 0 {
		return api.ErrMissing
	}
	if a[at].Kind != api.Int || kindOf(j.Left, a) != api.Int || kindOf(j.Right, a) != api.Int {
		return api.ErrFalse
	}
	return nil
}

// wrongList is what is wrong with a list of columns.
func wrongList(names []string, a []api.Column) error {
	if len(names) == 0 || len(names) > api.MaxCols {
		return api.ErrArg
	}
	for i, name := range names {
		if place(a, name) < 0 {
			return api.ErrMissing
		}
		if slices.Contains(names[:i], name) {
			return api.ErrTwice
		}
	}
	return nil
}

// wrongJoin is what is wrong with a job that joins two tables.
func wrongJoin(j api.Job, a, b []api.Column) error {
	if len(j.Cols) != 2 {
		return api.ErrArg
	}
	in, to := place(a, j.Cols[0]), place(b, j.Cols[1])
	if in < 0 || to < 0 {
		return api.ErrMissing
	}
	if a[in].Kind != b[to].Kind {
		return api.ErrFalse
	}
	both := beside(a, b, to)
	for i, c := range both {
		if place(both, c.Name) < i {
			return api.ErrTwice
		}
	}
	if len(both) > api.MaxCols {
		return api.ErrLimit
	}
	return nil
}

// wrongGroup is what is wrong with a job that groups rows.
func wrongGroup(j api.Job, a []api.Column) error {
	if len(j.Cols) != 2 || j.Op != "sum" && j.Op != "max" {
		return api.ErrArg
	}
	by, of := place(a, j.Cols[0]), place(a, j.Cols[1])
	if by < 0 || of < 0 {
		return api.ErrMissing
	}
	if a[of].Kind != api.Int {
		return api.ErrFalse
	}
	if by == of {
		return api.ErrTwice
	}
	return nil
}
