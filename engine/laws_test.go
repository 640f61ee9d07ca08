package engine_test

import (
	"fmt"
	"slices"
	"strings"
	"testing"

	"foreman/api"
	"foreman/catalog"
	"foreman/engine"
	"foreman/eval"
	"foreman/flow"
	"foreman/ops"
	"foreman/plan"
	"foreman/store"
	"foreman/sum"
	"foreman/table"
)

// drawnTable is a table of these columns, of values of which many are alike.
func drawnTable(n func(int) int, cols string) string {
	s := cols
	for range n(6) {
		s += "|"
		for i, c := range strings.Fields(cols) {
			if i > 0 {
				s += " "
			}
			if strings.HasSuffix(c, ":int") {
				s += []string{"0", "1", "2", "-1", "1000000000"}[n(5)]
			} else {
				s += []string{"''", "'a'", "'a b'"}[n(3)]
			}
		}
	}
	return s
}

// Heads of the tables p and q.
const (
	peopleHead = "id:int n:text v:int"
	marksHead  = "id:int w:int"
)

// drawnFlow is a flow that reads p and q; its jobs stand in any order, and most flows are right.
func drawnFlow(n func(int) int) string {
	named, anyName := []string{"p"}, []string{"p", "p", "q"}
	var jobs []string
	for i := range n(6) {
		o := fmt.Sprint("t", i)
		a, b, c := named[n(len(named))], named[n(len(named))], anyName[n(len(anyName))]
		job := "job " + o + []string{"", "", " retry 1", " retry 2"}[n(4)] + " = "
		switch n(12) {
		case 0, 1:
			job += "filter " + a + " where id " + []string{"<", ">=", "<>"}[n(3)] + " " + []string{"1", "v", "-1"}[n(3)]
		case 2:
			job += "set " + a + ": v = v " + []string{"+ 1", "* id", "- 1"}[n(3)]
		case 3, 4:
			job += "sort " + a + " by " + []string{"id", "n, id", "v"}[n(3)]
		case 5:
			job += "union " + a + ", " + b
		case 6, 7:
			job += "distinct " + a
		case 8, 9:
			job = strings.Replace(job, o, o+", "+o+"x", 1) + "split " + a + " where n " + []string{"=", "<"}[n(2)] + " 'a'"
			named = append(named, o+"x")
		default:
			job += []string{"project " + c + " by id", "group " + c + " by id max id", "group " + a + " by n sum v", "join " + a + ".id, q.id", "distinct " + c}[n(5)]
			anyName = append(anyName, o)
			jobs = append(jobs, job+"; ")
			continue
		}
		named, anyName = append(named, o), append(anyName, o)
		jobs = slices.Insert(jobs, n(len(jobs)+1), job+"; ")
	}
	s := heads + strings.Join(jobs, "")
	for i := range n(3) {
		s += fmt.Sprint("out r", i, " = ", anyName[n(len(anyName))], "; ")
	}
	if n(4) == 0 {
		s += "out p = " + named[n(len(named))] + "; "
	}
	return s
}

// drawnPicks are picks of which few fail.
func drawnPicks(n func(int) int) []int {
	var l []int
	for range n(9) {
		l = append(l, 2*n(5)+n(12)/11-20*n(2))
	}
	return l
}

// given are a version's tables.
func given(t *testing.T, m tables) map[string]api.Table {
	t.Helper()
	l := map[string]api.Table{}
	for name, s := range m {
		l[name] = tab(t, s)
	}
	return l
}

// Test102Meant: a run tells what the flow means, whichever job comes first; without picks its errors, too, are the same.
func Test102Meant(t *testing.T) {
	n := drawn(102)
	count := map[string]int{}
	for range 600 {
		r := fresh(t, 4000)
		r.loads(t, "p", drawnTable(n, peopleHead))
		r.loads(t, "q", drawnTable(n, marksHead))
		for range 4 {
			s := drawnFlow(n)
			was := r.told(t)
			f, err := flow.Parse(s)
			if err != nil {
				t.Fatalf("%s: error %v", s, err)
			}
			meant, fail := eval.Run(f, given(t, last(was)))
			var picks []int
			if n(2) == 0 && fail.Err == api.OK {
				for range n(9) {
					picks = append(picks, 2*n(50)-50)
				}
			}
			got := r.e.Run(s, picks)
			if fail.Err != api.OK {
				count[fmt.Sprint(fail.Err)]++
				if got != (engine.Report{Err: fail.Err, Job: fail.Job}) {
					t.Fatalf("%s: %+v, want %+v", s, got, fail)
				}
				r.has(t, was...)
				continue
			}
			told := tables{}
			for name, x := range meant {
				told[name] = written(t, x)
			}
			if got.Err != api.OK || got.Job != -1 || got.Done+got.Known != len(f.Jobs) || got.Version != len(was)+1 {
				t.Fatalf("%s by %v: %+v", s, picks, got)
			}
			r.has(t, append(was, over(last(was), told))...)
			count["right"]++
		}
	}
	if count["right"] < 1000 || count[fmt.Sprint(api.ErrRange)] < 50 {
		t.Errorf("%v", count)
	}
}

// model is what an engine must be like behind drawn steps.
type model struct {
	*rig
	there   []tables
	known   map[string]bool // jobs that were done, with what they were done to
	failed  bool
	perhaps tables // the version at which ErrDevice was told, if there was one in the making
	unsure  string // the job at which it was told, if it was in one
	again   func() // runs the same flow again, by the same picks
	room    budget
	count   map[string]int
}

// asked is what a job does, to tables.
func asked(j api.Job, ins []string) string {
	return fmt.Sprintf("%v %q %v %v %v %q", j.Code, j.Cols, j.Op, j.Left, j.Right, ins)
}

// simulated is a run by the document's words.
type simulated struct {
	report engine.Report
	order  []int    // jobs that are done
	asked  []string // what they are, and then the one at which it ended
	isNew  []bool
	told   tables
	grown  budget // what is made, and the version
}

// simulate runs a flow that is right on the model.
func (m *model) simulate(t *testing.T, s string, picks []int) simulated {
	t.Helper()
	f, err := flow.Parse(s)
	if err == nil {
		_, err = plan.Check(f)
	}
	if err != nil {
		return simulated{report: engine.Report{Err: api.Tell(err), Job: -1}}
	}
	x := simulated{told: tables{}}
	there, known := tables{}, map[string]bool{}
	for _, in := range f.Ins {
		text, is := last(m.there)[in.Name]
		if !is {
			return simulated{report: engine.Report{Err: api.ErrMissing, Job: -1}}
		}
		if !slices.Equal(tab(t, text).Cols, in.Cols) {
			return simulated{report: engine.Report{Err: api.ErrFalse, Job: -1}}
		}
		there[in.Name] = text
	}
	failures := map[int]int{}
	for len(x.order) < len(f.Jobs) {
		var ready []int
		for job, j := range f.Jobs {
			all := !slices.Contains(x.order, job)
			for _, name := range j.Ins {
				_, is := there[name]
				all = all && is
			}
			if all {
				ready = append(ready, job)
			}
		}
		var pick uint64
		if len(picks) > 0 {
			pick, picks = uint64(picks[0]), picks[1:]
		}
		job := ready[(pick>>1)%uint64(len(ready))]
		j := f.Jobs[job]
		if pick&1 == 1 {
			failures[job]++
			if failures[job] > j.Retry {
				x.report = engine.Report{Err: api.ErrNone, Job: job}
				return x
			}
			continue
		}
		var texts []string
		var ins []api.Table
		for _, name := range j.Ins {
			texts = append(texts, there[name])
			ins = append(ins, tab(t, there[name]))
		}
		what := asked(j, texts)
		outs, err := ops.Do(j, ins)
		if err != nil {
			x.report = engine.Report{Err: api.Tell(err), Job: job}
			return x
		}
		isNew := !m.known[what] && !known[what]
		for i, name := range j.Outs {
			there[name] = written(t, outs[i])
			if isNew {
				x.grown.table(there[name])
			}
		}
		x.order, x.asked, x.isNew = append(x.order, job), append(x.asked, what), append(x.isNew, isNew)
		known[what] = true
		if isNew {
			x.report.Done++
		} else {
			x.report.Known++
		}
	}
	for _, out := range f.Outs {
		x.told[out.Name] = there[out.From]
	}
	x.report.Version, x.report.Job = len(m.there)+1, -1
	x.grown.version(len(over(last(m.there), x.told)))
	return x
}

// ends asks whether a call told what it may: what was wanted, or (with a fuse) ErrDevice, or (without room) ErrFull. It says whether the version is there.
func (m *model) ends(t *testing.T, what string, got, want api.Errno, grown budget, next tables) bool {
	t.Helper()
	if m.failed {
		if got != api.ErrState {
			t.Fatalf("%s: error %d, want %d", what, got, api.ErrState)
		}
		m.count["state"]++
		return false
	}
	fits := m.room.bytes+grown.bytes <= m.room.half
	m.room.bytes += grown.bytes
	switch {
	case got == api.ErrDevice:
		m.failed, m.perhaps = true, next
		m.count["device"]++
		return false
	case got == api.ErrFull && want != api.ErrFull && !fits:
		m.count["full"]++
		return false
	case got != want:
		t.Fatalf("%s: error %d, want %d (room: %v)", what, got, want, fits)
	}
	m.count[fmt.Sprint(what, int(got))]++
	if got == api.OK {
		m.there = append(m.there, next)
	}
	return got == api.OK
}

// load loads a drawn table.
func (m *model) load(t *testing.T, n func(int) int) {
	t.Helper()
	name := []string{"p", "q", "p", "q", "z"}[n(5)]
	s := drawnTable(n, map[string]string{"p": peopleHead, "q": marksHead, "z": "a:int"}[name])
	if n(20) == 0 {
		s, name = drawnTable(n, marksHead), "p"
	}
	x, want := tab(t, s), api.OK
	if n(20) == 0 {
		name, want = "A", api.ErrName
	} else if n(20) == 0 {
		x.Cols, want = nil, api.ErrArg
	}
	var grown budget
	next := over(last(m.there), tables{name: s})
	if want == api.OK {
		grown.table(s)
		grown.version(len(next))
	}
	err := m.e.Load(name, x)
	m.ends(t, "Load", api.Tell(err), want, grown, next)
}

// back goes back to a drawn version.
func (m *model) back(t *testing.T, n func(int) int) {
	t.Helper()
	to, want := n(len(m.there)+3)-1, api.OK
	next := last(m.there)
	var grown budget
	if to < 0 || to > len(m.there) {
		want = api.ErrMissing
	} else {
		if to > 0 {
			next = over(next, m.there[to-1])
		}
		grown.version(len(next))
	}
	m.ends(t, "Back", api.Tell(m.e.Back(to)), want, grown, next)
}

// run runs a drawn flow.
func (m *model) run(t *testing.T, n func(int) int) {
	t.Helper()
	m.runOf(t, drawnFlow(n), drawnPicks(n))
}

// runOf runs a flow.
func (m *model) runOf(t *testing.T, s string, picks []int) {
	t.Helper()
	x := m.simulate(t, s, picks)
	got := m.e.Run(s, picks)
	if m.unsure != "" && !m.failed && got.Err == api.OK && got != x.report {
		// It was known, after all.
		m.known[m.unsure] = true
		x = m.simulate(t, s, picks)
		m.count["the last job, too"]++
	}
	if m.failed {
		m.ends(t, "Run", got.Err, api.OK, budget{}, nil)
		return
	}
	next := over(last(m.there), x.told)
	m.ends(t, "Run", got.Err, x.report.Err, x.grown, next)
	done := len(x.order)
	if got.Err != x.report.Err {
		// It was cut off: in a job, or behind all of them.
		m.perhaps = nil
		if done = slices.Index(x.order, got.Job); got.Job == -1 {
			done = len(x.order)
			m.perhaps = next
		}
		if done < 0 || got != (engine.Report{Err: got.Err, Job: got.Job}) {
			t.Fatalf("%s by %v: %+v, want %+v", s, picks, got, x.report)
		}
		if got.Job >= 0 && !x.isNew[done] {
			t.Fatalf("%s by %v: %+v in a job that is known", s, picks, got)
		}
		if got.Job >= 0 && got.Err == api.ErrDevice {
			m.unsure = x.asked[done]
			m.again = func() { m.runOf(t, s, picks) }
		}
	} else if got != x.report {
		t.Fatalf("%s by %v: %+v, want %+v", s, picks, got, x.report)
	}
	for _, what := range x.asked[:done] {
		m.known[what] = true
	}
	if got.Known > 0 {
		m.count["known"]++
	}
}

// open opens the disk again: the version in the making is there, or not, and what was known is known.
func (m *model) open(t *testing.T) {
	t.Helper()
	m.rig = opened(t, m.d)
	got := m.told(t)
	switch {
	case same(got, m.there):
		if m.perhaps != nil {
			m.count["not at all"]++
		}
	case m.failed && m.perhaps != nil && same(got, append(slices.Clone(m.there), m.perhaps)):
		m.there = append(m.there, m.perhaps)
		m.count["wholly"]++
	default:
		t.Fatalf("there are %.900v, want %.900v, and perhaps %.400v", got, m.there, m.perhaps)
	}
	m.failed, m.perhaps = false, nil
	if m.unsure != "" {
		m.d.Fuse(-1)
		m.again()
		m.unsure = ""
	}
}

// Test10Drawn: what was told is there, what was done is known, and a run tells what the document says, behind any steps.
func Test10Drawn(t *testing.T) {
	n := drawn(10)
	count := map[string]int{}
	for range 300 {
		sectors := []int{150, 600, 4000}[n(3)]
		m := &model{rig: fresh(t, sectors), known: map[string]bool{}, count: count, room: budget{half: sectors * api.Sector / 2}}
		for range 5 {
			m.load(t, n)
		}
		for range 40 {
			switch n(12) {
			case 0:
				m.d.Fuse(n(40))
			case 1:
				m.d.Crash(bits([]int{n(1 << 20), 1<<20 - 1}[n(2)], 20))
				m.open(t)
			case 2:
				m.d.Fuse(-1)
				m.open(t)
			case 3, 4:
				m.load(t, n)
			case 5:
				m.back(t, n)
			default:
				m.run(t, n)
			}
			m.has(t, m.there...)
		}
		m.d.Crash(nil)
		m.open(t)
	}
	for _, what := range []string{"state", "device", "full", "known", "the last job, too", "wholly", "not at all", "Load0", "Load5", "Load1", "Back0", "Back7", "Run0", "Run2", "Run7", "Run8", "Run13"} {
		if count[what] < 10 {
			t.Errorf("%s: %d times: %v", what, count[what], count)
		}
	}
}

// Test103Cut: wherever a call is cut off, and whichever of its writes are kept: all versions that were told are as they were, the one in the making is there wholly, or not at all; what was done ahead of the job that was cut off is known, and what comes then is there, too.
func Test103Cut(t *testing.T) {
	for name, call := range writers() {
		whole, lost := 0, 0
		for n := 0; ; n++ {
			cut := false
			for keeps := range 1 << 6 {
				r := both(t, 400)
				r.loads(t, "p", people)
				there := r.told(t)
				next := map[string]tables{"Load": {"x": "new:int"}, "Run": {"r": "id:int n:text v:int|1 'a' 5|2 'b' -3|3 'a' 7", "s": marks}}[name]
				r.d.Fuse(n)
				err := call(r.e)
				if err == nil {
					break
				}
				cut = true
				tells(t, name, err, api.ErrDevice)
				r.has(t, there...)
				r = crashed(t, r.d, bits(keeps, 6)...)
				if got := r.told(t); same(got, append(slices.Clone(there), over(last(there), next))) {
					there = got
					whole++
				} else {
					r.has(t, there...)
					lost++
				}
				for _, call := range writers() {
					tells(t, "then", call(r.e), api.OK)
					there = append(there, last(r.told(t)))
					r.has(t, there...)
					r = crashed(t, r.d)
					r.has(t, there...)
				}
			}
			if !cut {
				break
			}
		}
		if whole == 0 || lost == 0 {
			t.Errorf("%s: %d times whole, %d times lost", name, whole, lost)
		}
	}
}

// A run that is cut off is known as far as it came: all jobs ahead of the one in which it was, that one perhaps, none behind it.
func Test103CutKnown(t *testing.T) {
	s := heads + "job a = distinct p; job b, c = split a where id < 3; job d = union c, b; job e = sort d by v; out r = e;"
	perhaps := map[int]int{}
	for n := 0; ; n++ {
		cut := false
		for keeps := range 1 << 6 {
			for _, crash := range []bool{true, false} {
				r := both(t, 400)
				r.d.Fuse(n)
				got := r.e.Run(s, nil)
				if got.Err == api.OK {
					break
				}
				cut = true
				if got != (engine.Report{Err: api.ErrDevice, Job: got.Job}) {
					t.Fatalf("%+v", got)
				}
				done := got.Job
				if done < 0 {
					done = 4
				}
				if crash {
					r.d.Crash(bits(keeps, 6))
				} else {
					r.d.Fuse(-1)
				}
				r = opened(t, r.d)
				if r.e.Version() == 2 {
					r.has(t, r.told(t)[:2]...)
				}
				again := r.e.Run(s, nil)
				if again.Err != api.OK || again.Done+again.Known != 4 || again.Known < done || again.Known > done+1 || done == 4 && again.Known != 4 {
					t.Fatalf("cut off at %d: %+v, then %+v", n, got, again)
				}
				perhaps[again.Known-done]++
				if third := r.e.Run(s, nil); third.Known != 4 || third.Done != 0 {
					t.Fatalf("cut off at %d: the third time %+v", n, third)
				}
			}
		}
		if !cut {
			break
		}
	}
	if perhaps[0] == 0 || perhaps[1] == 0 {
		t.Errorf("%v", perhaps)
	}
}

// An engine that was opened while the disk did nothing does not hold for known what a crash may take away yet.
func Test103OpenedWithoutDisk(t *testing.T) {
	s := heads + "job a = set p: id = id + 1; job b = set a: id = id + 1; out r = b;"
	counted := map[int]int{}
	for n := range 40 {
		r := both(t, 400)
		was := len(r.told(t))
		r.d.Fuse(n)
		if got := r.e.Run(s, nil); got.Err == api.OK {
			break
		}
		r.d.Fuse(0)
		r = opened(t, r.d)
		r.d.Fuse(-1)
		// Job 0 is done, known or not; then job 1 fails.
		got := r.e.Run(s, []int{0, 1})
		if got != (engine.Report{Err: api.ErrNone, Job: 1}) {
			t.Fatalf("%d: %+v", n, got)
		}
		r = crashed(t, r.d)
		if len(r.told(t)) < was {
			t.Fatalf("there are %v", r.told(t))
		}
		got = r.e.Run(s, nil)
		if got.Err != api.OK || got.Known < 1 {
			t.Fatalf("%d: what was done is not known: %+v", n, got)
		}
		counted[got.Known]++
	}
	if counted[1] == 0 || counted[2] == 0 {
		t.Errorf("%v", counted)
	}
}

// An engine that was opened while the disk did nothing, and used behind a crash, tells no version that isn't there.
func Test103UsedBehindCrash(t *testing.T) {
	s := heads + "job a = set p: id = id + 1; job b = set a: id = id + 1; out r = b;"
	for n := range 40 {
		for keeps := range 1 << 4 {
			r := both(t, 400)
			r.d.Fuse(n)
			r.e.Run(s, nil)
			r.d.Fuse(0)
			r = opened(t, r.d)
			r.d.Crash(bits(keeps, 4))
			got := r.e.Run(s, nil)
			if got.Err != api.OK && got.Err != api.ErrMissing {
				t.Fatalf("%d, %b: %+v", n, keeps, got)
			}
			r = crashed(t, r.d)
			if got.Err == api.OK && len(r.told(t)) < 3 {
				t.Fatalf("%d, %b: there are %v", n, keeps, r.told(t))
			}
			if got := r.e.Run(s, nil); got.Err != api.OK {
				t.Fatalf("%d, %b: then %+v", n, keeps, got)
			}
			r.runs(t, s, 0, 2)
		}
	}
}

// Test101Spoilt: catalog.Open's error.
func Test101Spoilt(t *testing.T) {
	r := both(t, 100)
	sectors := image(r.d)
	for at := 2; at < len(sectors); at++ {
		sectors[at] = ""
	}
	e, err := engine.Open(laid(t, sectors))
	tells(t, "Open", err, api.ErrSpoilt)
	if e != nil {
		t.Errorf("%v beside its error", e)
	}
}

// Opening changes nothing.
func Test10OpenChangesNothing(t *testing.T) {
	r := both(t, 400)
	r.runs(t, five, 5, 0)
	there, was := r.told(t), image(r.d)
	for i := range 20 {
		opened(t, r.d).has(t, there...)
		crashed(t, r.d, bits(i, 5)...).has(t, there...)
	}
	if !slices.Equal(image(r.d), was) {
		t.Errorf("Open wrote to the disk")
	}
}

// Whatever others put on a disk, nothing panics; what isn't a table is spoilt, and what leads to nothing is not known.
func TestP1OtherRecords(t *testing.T) {
	const mark = "a job was done, and it made:"
	text := "id:int\n1\n"
	what := sum.Sum("distinct t\n" + sum.Sum(text))
	unknown := engine.Report{Version: 2, Done: 2, Job: -1}
	for memo, want := range map[string]engine.Report{
		"": unknown, mark: unknown, mark + "x": unknown, mark + what: unknown, mark + what + "x": unknown, mark + what + sum.Sum(text)[:31]: unknown,
		"x" + mark + what + sum.Sum(text):              unknown,
		mark + what + sum.Sum("none"):                  unknown,
		mark + what + sum.Sum(text) + sum.Sum(text):    unknown,
		mark + what + sum.Sum(text) + "x":              unknown,
		mark + what + sum.Sum(text):                    {Version: 2, Done: 1, Known: 1, Job: -1},
		mark + what + sum.Sum("no table"):              {Err: api.ErrSpoilt, Job: 1},
		mark + what + sum.Sum("n:text\n"):              {Err: api.ErrMissing, Job: 1},
		mark + sum.Sum("distinct p") + sum.Sum(text):   unknown,
		strings.ToUpper(mark) + what + sum.Sum("none"): unknown,
	} {
		d := made(t, 400)
		c, x, err := catalog.Open(d)
		tells(t, "Open", err, api.OK)
		put(t, x, text, "no table", "n:text\n", memo)
		tells(t, "Publish", c.Publish(map[string]string{"p": sum.Sum(text), "x": sum.Sum("no table")}), api.OK)
		r := opened(t, d)
		y, err := r.e.Table("x", 1)
		tells(t, "Table", err, api.ErrSpoilt)
		if y.Cols != nil || y.Rows != nil {
			t.Errorf("%v beside its error", y)
		}
		if got := r.e.Run("in x: id int;", nil); got != (engine.Report{Err: api.ErrSpoilt, Job: -1}) {
			t.Errorf("%q: %+v", memo, got)
		}
		got := r.e.Run("in p: id int; job a = distinct p; job b = sort a by id; out r = b;", nil)
		if got != want {
			t.Errorf("%q: %+v, want %+v", memo, got, want)
		}
		if got.Err == api.OK {
			z, err := r.e.Table("r", 2)
			tells(t, "Table", err, api.OK)
			if s, _ := table.Print(z); s != text {
				t.Errorf("%q: %q", memo, s)
			}
		}
	}
}

// put puts records.
func put(t *testing.T, x *store.Store, texts ...string) {
	t.Helper()
	for _, s := range texts {
		_, err := x.Put(s)
		tells(t, "Put", err, api.OK)
	}
}

// Whatever lies on a disk, Open ends, and what is done then is there.
func TestP1OtherSectors(t *testing.T) {
	n := drawn(11)
	r := both(t, 100)
	r.runs(t, five, 5, 0)
	sectors := image(r.d)
	count := map[api.Errno]int{}
	for range 1000 {
		mixed := slices.Clone(sectors)
		for range n(4) {
			b := []byte(sectors[n(len(sectors))])
			b[n(len(b))] = byte(n(256))
			mixed[n(len(mixed))] = string(b)
		}
		d := laid(t, mixed)
		e, err := engine.Open(d)
		count[api.Tell(err)]++
		if err != nil {
			tells(t, "Open", err, api.ErrSpoilt)
			continue
		}
		there := (&rig{d, e}).told(t)
		if e.Run(five, nil).Err == api.OK {
			crashed(t, d).has(t, append(there, over(last(there), tables{"r": last(there)["r"]}))...)
		}
	}
	if count[api.OK] < 100 || count[api.ErrSpoilt] < 100 {
		t.Errorf("%v", count)
	}
}
