package eval_test

import (
	"fmt"
	"strings"
	"testing"

	"foreman/api"
	"foreman/eval"
	"foreman/flow"
	"foreman/plain"
	"foreman/table"
)

// fine is how a run ends that tells tables.
var fine = eval.Fail{Err: api.OK, Job: -1}

func num(n int) api.Value     { return api.Value{Kind: api.Int, Num: n} }
func word(s string) api.Value { return api.Value{Kind: api.Text, Word: s} }

// read is a flow of a text.
func read(t *testing.T, s string) api.Flow {
	t.Helper()
	f, err := flow.Parse(s)
	if err != nil {
		e, at := plain.Place(err)
		t.Fatalf("%.300q: error %d at %d", s, e, at)
	}
	return f
}

// tab is the table of a text with bars in the place of line feeds.
func tab(t *testing.T, s string) api.Table {
	t.Helper()
	x, err := table.Parse(strings.ReplaceAll(s, "|", "\n") + "\n")
	if err != nil {
		t.Fatalf("%q is no table: %v", s, err)
	}
	return x
}

// tabs are tables of texts, by their names.
func tabs(t *testing.T, texts map[string]string) map[string]api.Table {
	t.Helper()
	m := map[string]api.Table{}
	for name, s := range texts {
		m[name] = tab(t, s)
	}
	return m
}

// text is what tab reads.
func text(t *testing.T, x api.Table) string {
	t.Helper()
	s, err := table.Print(x)
	if err != nil {
		t.Fatalf("%v may not be", x)
	}
	return strings.ReplaceAll(strings.TrimSuffix(s, "\n"), "\n", "|")
}

// texts are what tabs reads.
func texts(t *testing.T, m map[string]api.Table) map[string]string {
	t.Helper()
	l := map[string]string{}
	for name, x := range m {
		l[name] = text(t, x)
	}
	return l
}

// many is a table of so many rows, from 0 on.
func many(t *testing.T, n int) api.Table {
	t.Helper()
	x := tab(t, "id:int v:int")
	for i := range n {
		x.Rows = append(x.Rows, []api.Value{num(i), num(1)})
	}
	return x
}

// fails asks that a run ends so, and tells nothing beside it.
func fails(t *testing.T, s string, given map[string]api.Table, e api.Errno, job int) {
	t.Helper()
	m, got := eval.Run(read(t, s), given)
	if want := (eval.Fail{Err: e, Job: job}); got != want {
		t.Errorf("%s of %.200s: ends with %d, job %d, want %d, job %d", s, fmt.Sprint(given), got.Err, got.Job, e, job)
	}
	if m != nil {
		t.Errorf("%s of %.200s: tells %v beside its error", s, fmt.Sprint(given), m)
	}
}

// drawn gives numbers that look drawn, the same each time.
func drawn(seed uint64) func(most int) int {
	return func(most int) int {
		seed = seed*6364136223846793005 + 1442695040888963407
		return int((seed >> 33) % uint64(most))
	}
}

// drawnFlow is a flow with nothing wrong in it, of tables p and q, whose jobs stand as they come; some of them may fail.
func drawnFlow(t *testing.T, n func(int) int) api.Flow {
	t.Helper()
	tables := []string{"p", "q"}
	pick := func() string { return tables[n(len(tables))] }
	s := "in p: id int, v int; in q: id int, v int; "
	for i := range n(api.MaxJobs + 1) {
		o, a := fmt.Sprint("t", i), pick()
		if n(5) == 0 {
			s += fmt.Sprintf("job %s, u%d = split %s where id < v; ", o, i, a)
			tables = append(tables, o, fmt.Sprint("u", i))
			continue
		}
		s += "job " + o + " = " + []string{
			"distinct " + a, "union " + a + ", " + pick(), "sort " + a + " by v, id", "set " + a + ": v = id + 1", "set " + a + ": id = v * v",
			"filter " + a + " where id <= 3", "project " + a + " by id, v", "group " + a + " by id sum v", "group " + a + " by id max v",
		}[n(9)] + "; "
		tables = append(tables, o)
	}
	for i := range n(4) {
		s += fmt.Sprintf("out r%d = %s; ", i, pick())
	}
	return read(t, s)
}

// drawnTable is a table that drawnFlow's jobs read.
func drawnTable(n func(int) int) api.Table {
	x := api.Table{Cols: []api.Column{{Name: "id", Kind: api.Int}, {Name: "v", Kind: api.Int}}}
	for range n(25) {
		x.Rows = append(x.Rows, []api.Value{num(n(6)), num([]int{n(6), n(6), n(6), -n(6), 20000 * n(6)}[n(5)])})
	}
	return x
}

// drawnTables are tables p and q.
func drawnTables(n func(int) int) map[string]api.Table {
	return map[string]api.Table{"p": drawnTable(n), "q": drawnTable(n)}
}

// moved is a flow whose jobs stand in another order.
func moved(f api.Flow, n func(int) int) api.Flow {
	jobs := make([]api.Job, 0, len(f.Jobs))
	for _, j := range f.Jobs {
		i := n(len(jobs) + 1)
		jobs = append(jobs, api.Job{})
		copy(jobs[i+1:], jobs[i:])
		jobs[i] = j
	}
	f.Jobs = jobs
	return f
}
