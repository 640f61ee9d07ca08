package ops_test

import (
	"errors"
	"strings"
	"testing"

	"foreman/api"
	"foreman/table"
)

func num(n int) api.Value         { return api.Value{Kind: api.Int, Num: n} }
func word(s string) api.Value     { return api.Value{Kind: api.Text, Word: s} }
func col(name string) api.Arg     { return api.Arg{Col: name} }
func value(v api.Value) api.Arg   { return api.Arg{Value: v} }
func names(s string) []string     { return strings.Fields(s) }
func one(j api.Job) api.Job       { j.Outs = []string{"x"}; return j }
func project(cols string) api.Job { return one(api.Job{Code: api.Project, Cols: names(cols)}) }
func sortBy(cols string) api.Job  { return one(api.Job{Code: api.Sort, Cols: names(cols)}) }
func union() api.Job              { return one(api.Job{Code: api.Union}) }
func distinct() api.Job           { return one(api.Job{Code: api.Distinct}) }
func join(cols string) api.Job    { return one(api.Job{Code: api.Join, Cols: names(cols)}) }

func filter(left, op string, right api.Arg) api.Job {
	return one(api.Job{Code: api.Filter, Left: col(left), Op: op, Right: right})
}

func split(left, op string, right api.Arg) api.Job {
	return api.Job{Code: api.Split, Outs: []string{"x", "y"}, Left: col(left), Op: op, Right: right}
}

func set(name string, left api.Arg, op string, right api.Arg) api.Job {
	return one(api.Job{Code: api.Set, Cols: names(name), Left: left, Op: op, Right: right})
}

func group(op, cols string) api.Job {
	return one(api.Job{Code: api.Group, Op: op, Cols: names(cols)})
}

// tab is the table of a text with bars in the place of line feeds.
func tab(t *testing.T, s string) api.Table {
	t.Helper()
	x, err := table.Parse(strings.ReplaceAll(s, "|", "\n") + "\n")
	if err != nil {
		t.Fatalf("%q is no table: %v", s, err)
	}
	return x
}

// tabs are tables of texts.
func tabs(t *testing.T, l ...string) []api.Table {
	t.Helper()
	var tables []api.Table
	for _, s := range l {
		tables = append(tables, tab(t, s))
	}
	return tables
}

// text is what tab reads.
func text(t *testing.T, x api.Table) string {
	t.Helper()
	s, err := table.Print(x)
	if err != nil {
		t.Fatalf("%v may not be", x)
	}
	return strings.ReplaceAll(strings.TrimSuffix(s, "\n"), "\n", "|")
}

// texts are texts of tables.
func texts(t *testing.T, l []api.Table) []string {
	t.Helper()
	var all []string
	for _, x := range l {
		all = append(all, text(t, x))
	}
	return all
}

// heads are columns of tables.
func heads(l []api.Table) [][]api.Column {
	var all [][]api.Column
	for _, x := range l {
		all = append(all, x.Cols)
	}
	return all
}

// bare asks that an error is this one, and has no place.
func bare(t *testing.T, what string, err error, want api.Errno) {
	t.Helper()
	var at *api.At
	if api.Tell(err) != want || errors.As(err, &at) {
		t.Errorf("%s: error %v, want %v without a place", what, err, want)
	}
}

// drawn gives numbers that look drawn, the same each time.
func drawn(seed uint64) func(most int) int {
	return func(most int) int {
		seed = seed*6364136223846793005 + 1442695040888963407
		return int((seed >> 33) % uint64(most))
	}
}
