package engine_test

import (
	"fmt"
	"math"
	"slices"
	"strings"
	"testing"

	"foreman/api"
)

// Test102Told: one version more, in which each OUT's Name is its From: made, or given.
func Test102Told(t *testing.T) {
	r := both(t, 1000)
	want := r.told(t)
	for _, x := range []struct {
		s    string
		done int
		told tables
	}{
		{"", 0, nil},
		{heads, 0, nil},
		{heads + "job a = distinct p;", 1, nil},
		{heads + "out r = p; out s = p; out q = p;", 0, tables{"r": people, "s": people, "q": people}},
		{"in q: id int, n text, v int; job a = filter q where id > 2; out p = a; out a = q;", 1, tables{"p": "id:int n:text v:int|3 'a' 7", "a": people}},
		{"in p: id int, n text, v int; job a, b = split p where v < 9; job c = project a by v; out a = b; out b = a; out c = c;", 2,
			tables{"a": "id:int n:text v:int", "b": "id:int n:text v:int|3 'a' 7", "c": "v:int|7"}},
	} {
		r.runs(t, x.s, x.done, 0)
		want = append(want, over(last(want), x.told))
		r.has(t, want...)
	}
	crashed(t, r.d).has(t, want...)
}

// A flow reads the last version, not an elder one, and not what it tells itself.
func Test102LastVersion(t *testing.T) {
	r := fresh(t, 1000)
	r.loads(t, "p", "id:int|1")
	for i := range 20 {
		r.runs(t, "in p: id int; job a = set p: id = id + 1; out p = a;", 1, 0)
		if want := fmt.Sprint("id:int|", i+2); last(r.told(t))["p"] != want {
			t.Fatalf("version %d: %v, want %s", r.e.Version(), last(r.told(t)), want)
		}
	}
	tells(t, "Back", r.e.Back(5), api.OK)
	r.runs(t, "in p: id int; job a = set p: id = id + 1; out p = a;", 0, 1)
	if got := last(r.told(t))["p"]; got != "id:int|6" {
		t.Errorf("behind Back: %s", got)
	}
}

// wrongFlows are flows that may not be run on people and marks, each behind those that are told ahead of it.
var wrongFlows = []struct {
	want api.Errno
	s    string
}{
	{api.ErrForm, "?"},
	{api.ErrForm, "out r = p"},
	{api.ErrLimit, "in abcdefghijk: id int;"},
	{api.ErrLimit, "job a retry 6 = distinct p;"},
	{api.ErrForm, "in none: id int, id int;"},
	{api.ErrTwice, "in none: id int; in none: id int;"},
	{api.ErrMissing, "in none: id int; job a = distinct b;"},
	{api.ErrCycle, "in none: id int; job a = distinct a;"},
	{api.ErrArg, "in none: id int; job a, b = distinct none;"},
	{api.ErrFalse, "in none: id int; job a = filter none where id = 'a';"},
	{api.ErrTwice, "in none: id int; job a = sort none by id, id;"},
	{api.ErrMissing, "in none: id int; in p: id int;"},
	{api.ErrFalse, "in p: id int; in none: id int;"},
	{api.ErrMissing, "in q: id int, w int; in p: id int, n text, v int; in none: id int;"},
	{api.ErrFalse, "in q: id int, w int; in p: id int, v int, n text; in none: id int;"},
	{api.ErrFalse, "in q: w int, id int;"},
	{api.ErrFalse, "in q: id int, w text;"},
	{api.ErrFalse, "in q: id int, x int;"},
	{api.ErrFalse, "in q: id int, w int, x int; job a = distinct q; out a = a;"},
	{api.ErrMissing, "in r: id int;"},
}

// Test102Wrong: what is wrong with a flow, or with what it reads, is told ahead of all steps.
func Test102Wrong(t *testing.T) {
	r := both(t, 400)
	was := image(r.d)
	for _, x := range wrongFlows {
		r.fails(t, x.s, x.want, -1)
		r.fails(t, x.s, x.want, -1, 1, 1, 1)
	}
	r.d.Fuse(0)
	for _, x := range wrongFlows {
		r.fails(t, x.s, x.want, -1)
	}
	if !slices.Equal(image(r.d), was) {
		t.Errorf("a flow that may not be run wrote to the disk")
	}
	r.d.Fuse(-1)
	r.runs(t, heads+"job a = distinct p; out r = a;", 1, 0)
	fresh(t, 100).fails(t, "in p: id int;", api.ErrMissing, -1)
}

// A name may be read from its first version on; Back takes none away.
func Test102FirstVersion(t *testing.T) {
	r := fresh(t, 400)
	r.fails(t, "in p: id int;", api.ErrMissing, -1)
	r.loads(t, "p", "id:int|1")
	r.runs(t, "in p: id int; out q = p;", 0, 0)
	tells(t, "Back", r.e.Back(1), api.OK)
	r.runs(t, "in q: id int;", 0, 0)
}

// five has five jobs: 0, 2, 3 may come at first; 1 behind 0; 4 behind 0 and 2.
const five = heads + "job a = distinct p; job b = distinct a; job c = filter p where id > 0; job d = sort q by w; job e = union a, c; out r = e; "

// Test102Pick: which job a pick is about: the jobs that may come are counted from the first one on, again and again.
func Test102Pick(t *testing.T) {
	for _, x := range []struct {
		job   int
		picks []int
	}{
		{0, []int{1}}, {2, []int{3}}, {3, []int{5}}, {0, []int{7}}, {2, []int{9}}, {3, []int{11}}, {0, []int{6000001}}, {3, []int{6000005}},
		{1, []int{0, 1}}, {2, []int{0, 3}}, {3, []int{0, 5}}, {1, []int{0, 7}},
		{0, []int{2, 1}}, {3, []int{2, 3}}, {0, []int{2, 5}},
		{0, []int{4, 1}}, {2, []int{4, 3}}, {0, []int{10, 1}},
		{1, []int{0, 2, 1}}, {3, []int{0, 2, 3}}, {4, []int{0, 2, 5}}, {1, []int{0, 2, 7}},
		{4, []int{0, 0, 0, 3}}, {3, []int{0, 0, 0, 1}}, {4, []int{4, 2, 0, 3}}, {4, []int{4, 2, 0, 0, 1}}, {4, []int{0, 0, 0, 0, 1}}, {4, []int{8, 8, 8, 8, 99}},
		// 2^63 - 1: half of it, cut, is 2^62 - 1, a multiple of 3. As 64 bits without a sign, -1 is 2^64 - 1, and its half 2^63 - 1 leaves 1; -3 the number 2^63 - 2 leaves 0.
		{0, []int{math.MaxInt}}, {2, []int{-1}}, {0, []int{-3}}, {3, []int{-5}}, {2, []int{-7}},
		// -2^63: its half is 2^62, which leaves 1: job 2; with one more it fails.
		{2, []int{math.MinInt + 1}}, {3, []int{math.MinInt, 3}}, {0, []int{math.MinInt, 1}},
		{0, []int{-2, 1}}, {3, []int{-2, 3}}, {1, []int{-4, 1}},
	} {
		both(t, 400).fails(t, five, api.ErrNone, x.job, x.picks...)
	}
	for _, picks := range [][]int{nil, {}, {0}, {4, 4}, {2, 2, 2, 2, 2}, {0, 0, 0, 0, 0, 1, 1, 1}, {math.MinInt, -2, math.MaxInt - 1, -4, 2}} {
		r := both(t, 400)
		r.runs(t, five, 5, 0, picks...)
		if got := last(r.told(t))["r"]; got != "id:int n:text v:int|1 'a' 5|2 'b' -3|3 'a' 7|1 'a' 5|2 'b' -3|3 'a' 7|2 'b' -3" {
			t.Errorf("by %v: %s", picks, got)
		}
	}
}

// Test102Retry: a job may fail as often as its Retry says, whichever others come between; one more is too often.
func Test102Retry(t *testing.T) {
	two := heads + "job a%s = distinct p; job b%s = distinct q; out r = a; out s = b;"
	for retry := range api.MaxRetry + 1 {
		word := fmt.Sprint(" retry ", retry)
		if retry == 0 {
			word = ""
		}
		s := fmt.Sprintf(two, word, word)
		r := both(t, 400)
		r.fails(t, s, api.ErrNone, 0, slices.Repeat([]int{1}, retry+1)...)
		r.fails(t, s, api.ErrNone, 1, slices.Repeat([]int{3}, retry+1)...)
		r.fails(t, s, api.ErrNone, 0, append(slices.Repeat([]int{1, 3}, retry), 1)...)
		r.fails(t, s, api.ErrNone, 1, append(slices.Repeat([]int{1, 3}, retry), 3)...)
		r.runs(t, s, 2, 0, slices.Repeat([]int{1, 3}, retry)...)
		r.fails(t, s, api.ErrNone, 1, append([]int{0}, slices.Repeat([]int{1}, retry+1)...)...)
		r.runs(t, s, 0, 2, append([]int{0}, slices.Repeat([]int{1}, retry)...)...)
		if retry > 0 {
			one := fmt.Sprintf(two, word, "")
			r.fails(t, one, api.ErrNone, 1, 1, 3)
			r.runs(t, one, 0, 2, 1)
		}
	}
}

// A failure counts in its own run alone.
func Test102RetryAgain(t *testing.T) {
	r := both(t, 400)
	s := heads + "job a retry 1 = distinct p; out r = a;"
	for range 3 {
		r.fails(t, s, api.ErrNone, 0, 1, 1)
	}
	r.runs(t, s, 1, 0, 1)
	for range 3 {
		r.runs(t, s, 0, 1, 1)
		r.fails(t, s, api.ErrNone, 0, 1, 1)
	}
}

// Test102Do: a job's own errors, with its number; a failure that is told comes ahead of them.
func Test102Do(t *testing.T) {
	r := both(t, 1000)
	r.fails(t, heads+"job a = distinct p; job b = set p: id = id * 1000000000; out r = b;", api.ErrRange, 1)
	r.fails(t, heads+"job a = set p: id = id * 1000000000; job b = set q: id = id * 1000000000; out r = b;", api.ErrRange, 0)
	r.fails(t, heads+"job a = set p: id = id * 1000000000; job b = set q: id = id * 1000000000; out r = b;", api.ErrRange, 1, 2)
	r.fails(t, heads+"job a = set p: id = id * 1000000000; job b = distinct q; out r = b;", api.ErrNone, 0, 1)
	r.fails(t, heads+"job a = set p: id = id * 1000000000; job b = distinct q; out r = b;", api.ErrNone, 1, 3)
	r.fails(t, heads+"job a retry 2 = set p: id = id * 1000000000;", api.ErrRange, 0, 1, 1)
	s, from := heads, "p"
	for i := range 4 {
		to := fmt.Sprint("a", i)
		s += "job " + to + " = union " + from + ", " + from + "; "
		from = to
	}
	r.fails(t, s, api.ErrFull, 3)
	r.runs(t, strings.Replace(s, "job a3 = union a2, a2; ", "", 1), 0, 3)
	// What was not done is not known, however often it is tried.
	for range 3 {
		r.fails(t, heads+"job a = set p: id = id * 1000000000;", api.ErrRange, 0)
		r = crashed(t, r.d)
	}
}

// known asks, of a job that is done, which of two others is known then.
func known(t *testing.T, done, same, other string) {
	t.Helper()
	flow := func(s string) string {
		if !strings.HasPrefix(s, "job ") {
			s = "job made = " + s + "; out r = made;"
		}
		return heads + "in z: id int, w int; in id: id int, n text, v int; in sort: id int, w int; " + s
	}
	r := both(t, 2000)
	r.loads(t, "z", marks)
	r.loads(t, "id", people)
	r.loads(t, "sort", marks)
	r.runs(t, flow(done), 1, 0)
	made := last(r.told(t))["r"]
	if other != "" {
		r.runs(t, flow(other), 1, 0)
		r.runs(t, flow(other), 0, 1)
	}
	for _, s := range []string{same, done} {
		if s == "" {
			continue
		}
		for range 2 {
			r.runs(t, flow(s), 0, 1)
			if got := last(r.told(t))["r"]; made != "" && got != made {
				t.Fatalf("%s made %s, then %s makes %s", done, made, s, got)
			}
			r = crashed(t, r.d)
		}
	}
}

// Test102Known: what does the same to the same tables is known, whatever the tables, and what is made, are called.
func Test102Known(t *testing.T) {
	for _, x := range []struct{ done, same, other string }{
		{"distinct p", "distinct id", "distinct q"},
		{"distinct q", "distinct z", "distinct p"},
		{"job a = distinct p;", "job b retry 3 = distinct p;", "job a = distinct q;"},
		{"filter p where id > 1", "filter id where id>001", "filter p where id > 2"},
		{"filter p where id > -1", "filter p where id > - 01", "filter p where id > 1"},
		{"filter p where id = 0", "filter p where id = -0", "filter p where v = 0"},
		{"filter p where n = '1'", "filter\np where n = '1'", "filter p where n = ' 1'"},
		{"filter p where id < 1", "filter id where id < 1", "filter p where id <= 1"},
		{"filter p where id < v", "filter id where id < v", "filter p where v < id"},
		{"filter p where n = 'n'", "", "filter p where n = n"},
		{"filter p where id < 1", "", "job a, b = split p where id < 1;"},
		{"job a, b = split p where id < 2;", "job b, a = split id where id < 2;", "job a, b = split p where id < 3;"},
		{"set p: id = id + 1", "set id: id = id + 1", "set p: v = id + 1"},
		{"set p: id = id + v", "set id : id=id+v", "set p: id = v + id"},
		{"set p: id = 2 + 2", "", "set p: id = 2 * 2"},
		{"project p by id, v", "project id by id,v", "project p by v, id"},
		{"project p by id", "", "sort p by id"},
		{"sort q by w, id", "sort sort by w , id", "sort q by w"},
		{"union q, z", "union sort, q", "union p, p"},
		{"union q, q", "union q, z", "union p, id"},
		{"join p.id, q.id", "join id.id, sort . id", "join q.id, p.id"},
		{"join p.v, q.id", "join id.v, z.id", "join p.id, q.id"},
		{"group p by n sum v", "group id by n sum v", "group p by n max v"},
		{"group p by id sum v", "", "group p by v sum id"},
	} {
		known(t, x.done, x.same, x.other)
	}
}

// Two tables that are made, or loaded, on other ways are the same, if their texts are; those that differ in a column's name, in the order of rows, or in one value, are not.
func Test102KnownTables(t *testing.T) {
	r := fresh(t, 2000)
	s := "in p: id int; job a = sort p by id; out r = a;"
	r.loads(t, "p", "id:int|1|2|3")
	r.runs(t, s, 1, 0)
	for _, x := range []string{"id:int|1|3|2", "id:int|1|2", "id:int|1|2|3|3", "id:int|1|2|4", "id:int|12|3", "id:int"} {
		r.loads(t, "p", x)
		r.runs(t, s, 1, 0)
		r.runs(t, s, 0, 1)
	}
	r.loads(t, "p", "v:int|1|2|3")
	r.runs(t, "in p: v int; job a = distinct p; out r = a;", 1, 0)
	r.loads(t, "p", "id:int|1|2|3")
	r.runs(t, "in p: id int; job a = distinct p; out r = a;", 1, 0)
	r.runs(t, "in r: id int; job a = distinct r; job b = sort a by id; out r = b;", 0, 2)
	r.loads(t, "p", "id:int|0|1|2")
	r.runs(t, "in p: id int; job a = set p: id = id + 1; job b = sort a by id; out r = b;", 1, 1)
	r = crashed(t, r.d)
	r.runs(t, "in p: id int; job x = set p: id = id + 1; job y = sort x by id; job z = distinct y; out r = z;", 0, 3)
	if got := last(r.told(t))["r"]; got != "id:int|1|2|3" {
		t.Errorf("r is %s", got)
	}
}

// A job is known by one that was done ahead in the same run.
func Test102KnownInRun(t *testing.T) {
	r := both(t, 1000)
	r.runs(t, heads+"job a = distinct q; job b = distinct q; job c = distinct a; job d = distinct b; out r = c; out s = d;", 1, 3)
	r.runs(t, heads+"job a = sort p by id; job b = sort p by v; job c retry 1 = sort p by v; job d = sort a by id;", 3, 1, 5, 4)
	r.has(t, append(r.told(t)[:2], tables{"p": people, "q": marks, "r": marks, "s": marks}, tables{"p": people, "q": marks, "r": marks, "s": marks})...)
}

// What was done in a run that ended with an error is known: in this engine, and in another one.
func Test102KnownOfErrors(t *testing.T) {
	for _, again := range []bool{false, true} {
		for _, x := range []struct {
			s     string
			want  api.Errno
			job   int
			picks []int
			known int
		}{
			{five, api.ErrNone, 0, []int{1}, 0},
			{five, api.ErrNone, 1, []int{0, 1}, 1},
			{five, api.ErrNone, 4, []int{0, 0, 0, 0, 1}, 4},
			{five, api.ErrNone, 0, []int{4, 2, 1}, 2},
			{five + "out n150 = a;", api.ErrLimit, -1, nil, 5},
		} {
			r := both(t, 16000)
			for i := 2; i < api.MaxNames && x.want == api.ErrLimit; i++ {
				r.loads(t, fmt.Sprint("n", i), "id:int")
			}
			r.fails(t, x.s, x.want, x.job, x.picks...)
			if again {
				r = crashed(t, r.d)
			}
			r.runs(t, strings.Replace(five, "out r", "out q", 1), 5-x.known, x.known)
		}
	}
}

// Many runs, of many jobs, are known behind another Open, whatever came between.
func Test102KnownForEver(t *testing.T) {
	r := fresh(t, 8000)
	s := "in p: id int; job a = set p: id = id + 1; job b, c = split a where id < 50; job d = union b, c; out p = d;"
	r.loads(t, "p", "id:int|0|7|30")
	for range 100 {
		r.runs(t, s, 3, 0)
	}
	want := r.told(t)
	tells(t, "Back", r.e.Back(1), api.OK)
	for i := range 100 {
		if i%10 == 0 {
			r = crashed(t, r.d)
		}
		r.runs(t, s, 0, 3)
	}
	r.has(t, append(want, want...)...)
	r.runs(t, s, 3, 0)
}

// Nothing is written for what is known, but the version: of no name it takes as much as any other.
func Test102KnownWritesNothing(t *testing.T) {
	r := both(t, 400)
	s := heads + "job a = distinct p; job b, c = split a where id < 2; job d = union b, c; "
	r.runs(t, s, 3, 0)
	free := func() int {
		n := 0
		for _, s := range image(r.d) {
			if strings.Trim(s, "\x00") == "" {
				n++
			}
		}
		return n
	}
	before := free()
	r.runs(t, "", 0, 0)
	empty := before - free()
	before = free()
	r.runs(t, s, 0, 3)
	if got := before - free(); got != empty {
		t.Errorf("%d sectors, an empty flow takes %d", got, empty)
	}
}

// TestP1: nothing panics, and each run ends, whatever it is given.
func TestP1(t *testing.T) {
	n := drawn(1)
	r := both(t, api.MaxDisk)
	numbers := []int{0, 1, -1, 2, 3, math.MaxInt, math.MinInt, math.MaxInt - 1, math.MinInt + 1, 1 << 32}
	words := strings.Fields(five + " job out in p q zz : ; , = retry 1 99 'a' \x00 \xff . - <> where by sum split join")
	count := map[api.Errno]int{}
	for range 3000 {
		l := strings.Fields(five)
		for range n(3) {
			l[n(len(l))] = words[n(len(words))]
		}
		var picks []int
		for range n(12) {
			picks = append(picks, numbers[n(len(numbers))]-n(2))
		}
		got := r.e.Run(strings.Join(l, " "), picks)
		count[got.Err]++
		if got.Err != api.OK && (got.Version != 0 || got.Done != 0 || got.Known != 0) || got.Err == api.OK && got.Job != -1 {
			t.Fatalf("%q by %v: %+v", l, picks, got)
		}
		r.e.Table(words[n(len(words))], numbers[n(len(numbers))])
		r.e.Names(numbers[n(len(numbers))])
		r.e.Back([]int{-1, math.MaxInt, math.MinInt}[n(3)])
		r.e.Load(words[n(len(words))], api.Table{})
	}
	if count[api.OK] < 100 || count[api.ErrNone] < 100 || count[api.ErrForm] < 100 {
		t.Errorf("%v", count)
	}
	picks := make([]int, 1<<20)
	for i := range picks {
		picks[i] = 1
	}
	both(t, 400).fails(t, heads+"job a retry 5 = distinct p; job b retry 5 = distinct q;", api.ErrNone, 0, picks...)
}
