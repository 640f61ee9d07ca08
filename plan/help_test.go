package plan_test

import (
	"fmt"
	"strings"
	"testing"

	"foreman/api"
	"foreman/flow"
	"foreman/plain"
	"foreman/plan"
)

// read is a flow of a text.
func read(t *testing.T, s string) api.Flow {
	t.Helper()
	f, err := flow.Parse(s)
	if err != nil {
		e, at := plain.Place(err)
		t.Fatalf("%.300q: error %d at %d", s, e, at)
	}
	return f
}

// cut is a text without the ^ in it, and where that stood.
func cut(t *testing.T, marked string) (string, int) {
	t.Helper()
	ahead, behind, ok := strings.Cut(marked, "^")
	if !ok || strings.Contains(behind, "^") {
		t.Fatalf("%.300q has not one ^", marked)
	}
	return ahead + behind, len(ahead)
}

// wrong asks that a flow is wrong in this way at the part ahead of which ^ stands (which is left out), and that nothing is told beside it.
func wrong(t *testing.T, want api.Errno, marked string) {
	t.Helper()
	s, place := cut(t, marked)
	m, err := plan.Check(read(t, s))
	if e, at := plain.Place(err); e != want || at != place {
		t.Errorf("%s: error %d at %d, want %d at %d", s, e, at, want, place)
	}
	if m != nil {
		t.Errorf("%s: beside the error it tells %v", s, m)
	}
}

// columnsOf are a flow's columns, as `name: col kind, ..`, by their names.
func columnsOf(t *testing.T, s string) map[string]string {
	t.Helper()
	m, err := plan.Check(read(t, s))
	if err != nil {
		e, at := plain.Place(err)
		t.Fatalf("%s: error %d at %d", s, e, at)
	}
	l := map[string]string{}
	for name, cols := range m {
		l[name] = written(cols)
	}
	return l
}

// written are columns as a flow's text has them.
func written(cols []api.Column) string {
	var l []string
	for _, c := range cols {
		l = append(l, c.Name+" "+map[int]string{api.Int: "int", api.Text: "text"}[c.Kind])
	}
	return strings.Join(l, ", ")
}

// drawn gives numbers that look drawn, the same each time.
func drawn(seed uint64) func(most int) int {
	return func(most int) int {
		seed = seed*6364136223846793005 + 1442695040888963407
		return int((seed >> 33) % uint64(most))
	}
}

// drawnFlow is a flow each of whose tables is made once, and each of which that is read is made; its jobs stand in any order, and may go round.
func drawnFlow(t *testing.T, n func(int) int) api.Flow {
	t.Helper()
	jobs := n(api.MaxJobs + 1)
	tables := []string{"p", "q"}
	var outs []string
	for i := range jobs {
		tables = append(tables, fmt.Sprint("t", i))
		outs = append(outs, fmt.Sprint("t", i))
		if n(4) == 0 {
			tables = append(tables, fmt.Sprint("u", i))
			outs[i] += fmt.Sprint(", u", i)
		}
	}
	far := 1 + n(len(tables))
	pick := func() string { return tables[n(far)] }
	s := "in p: id int, v int; in q: id int, v int; "
	for i := range jobs {
		if strings.Contains(outs[i], ",") {
			s += "job " + outs[i] + " = split " + pick() + " where id < 3; "
			continue
		}
		a := pick()
		s += "job " + outs[i] + " = " + []string{"distinct " + a, "union " + a + ", " + pick(), "sort " + a + " by v", "set " + a + ": v = id + 1"}[n(4)] + "; "
	}
	return read(t, s+"out r = "+pick()+";")
}

// moved is a flow whose jobs stand in another order.
func moved(f api.Flow, n func(int) int) api.Flow {
	jobs := make([]api.Job, 0, len(f.Jobs))
	for _, j := range f.Jobs {
		i := n(len(jobs) + 1)
		jobs = append(jobs, api.Job{})
		copy(jobs[i+1:], jobs[i:])
		jobs[i] = j
	}
	f.Jobs = jobs
	return f
}
