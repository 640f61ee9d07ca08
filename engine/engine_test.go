package engine_test

import (
	"fmt"
	"math"
	"slices"
	"strings"
	"testing"

	"foreman/api"
	"foreman/engine"
)

// Test101Nothing: at first there is no version, and version 0 has no names.
func Test101Nothing(t *testing.T) {
	for _, sectors := range []int{8, 9, 100, api.MaxDisk} {
		r := fresh(t, sectors)
		r.has(t)
		crashed(t, r.d).has(t)
		for _, n := range []int{-1, 1, 2, math.MinInt, math.MaxInt} {
			r.missing(t, n)
		}
		r.noTable(t, "p", 0)
	}
}

// Test101Load: one version more, in which the name is that table; those ahead stay as they were.
func Test101Load(t *testing.T) {
	r := fresh(t, 400)
	r.loads(t, "p", people)
	r.loads(t, "b0", "a:int")
	r.loads(t, "p", marks)
	r.loads(t, "abcdefghij", "a:text|''|'a b'|'~'")
	r.loads(t, "a", marks)
	want := []tables{
		{"p": people},
		{"p": people, "b0": "a:int"},
		{"p": marks, "b0": "a:int"},
		{"p": marks, "b0": "a:int", "abcdefghij": "a:text|''|'a b'|'~'"},
		{"p": marks, "b0": "a:int", "abcdefghij": "a:text|''|'a b'|'~'", "a": marks},
	}
	r.has(t, want...)
	opened(t, r.d).has(t, want...)
	r = crashed(t, r.d)
	r.has(t, want...)
	names, err := r.e.Names(5)
	if err != nil || !slices.Equal(names, []string{"a", "abcdefghij", "b0", "p"}) {
		t.Errorf("Names: %q, error %v", names, err)
	}
	for _, name := range []string{"", "z", "P", "p ", "b", "b00", "abcdefghi"} {
		r.noTable(t, name, 5)
	}
	r.noTable(t, "a", 4)
	r.noTable(t, "b0", 1)
}

// What is there already is loaded again, as one version more.
func Test101LoadAgain(t *testing.T) {
	r := fresh(t, 400)
	var want []tables
	for range 3 {
		r.loads(t, "p", people)
		want = append(want, tables{"p": people})
	}
	r.has(t, want...)
	crashed(t, r.d).has(t, want...)
}

// Test101Wrong: what is no Name, and tables that are not Right; a wrong name is told ahead of a wrong table.
func Test101Wrong(t *testing.T) {
	r := both(t, 400)
	was := r.told(t)
	right, number := tab(t, people), func(n int) [][]api.Value { return [][]api.Value{{{Kind: api.Int, Num: n}}} }
	id := []api.Column{{Name: "id", Kind: api.Int}}
	wrong := []api.Table{
		{}, {Rows: number(1)}, {Cols: []api.Column{{Name: "A", Kind: api.Int}}}, {Cols: []api.Column{{Name: "a"}}},
		{Cols: []api.Column{id[0], id[0]}}, {Cols: id, Rows: [][]api.Value{nil}}, {Cols: id, Rows: number(api.MaxNum + 1)},
		{Cols: id, Rows: [][]api.Value{{{Kind: api.Text}}}}, {Cols: id, Rows: slices.Repeat(number(1), api.MaxRows+1)},
		{Cols: id, Rows: [][]api.Value{{{Kind: api.Int, Word: "a"}}}},
	}
	for _, name := range []string{"", "A", "0", "a b", "a\n", "ä", "abcdefghijk", strings.Repeat("a", 100000)} {
		for _, x := range append(wrong, right) {
			tells(t, fmt.Sprintf("Load of %.20q", name), r.e.Load(name, x), api.ErrName)
		}
	}
	for _, x := range wrong {
		tells(t, fmt.Sprintf("Load of %.100v", x), r.e.Load("p", x), api.ErrArg)
	}
	r.d.Fuse(0)
	tells(t, "Load", r.e.Load("A", right), api.ErrName)
	tells(t, "Load", r.e.Load("a", api.Table{}), api.ErrArg)
	r.d.Fuse(-1)
	r.has(t, was...)
	r.loads(t, "p", "id:int|1")
	crashed(t, r.d).has(t, append(was, over(last(was), tables{"p": "id:int|1"}))...)
}

// Test101Greatest: the longest table that may be is loaded, and made.
func Test101Greatest(t *testing.T) {
	r := fresh(t, 2000)
	tells(t, "Load", r.e.Load("p", greatest("a")), api.OK)
	cols := ""
	for i := range api.MaxCols {
		cols += fmt.Sprint(", abcdefghi", i, " text")
	}
	r.runs(t, "in p: "+cols[2:]+"; job a = sort p by abcdefghi0; job b = filter p where abcdefghi1 <> 'aaaaaaaaaaaaaaaa'; out r = a; out s = b;", 2, 0)
	r = crashed(t, r.d)
	want := tables{"p": written(t, greatest("a")), "r": written(t, greatest("a"))}
	want["s"], _, _ = strings.Cut(want["p"], "|")
	r.has(t, tables{"p": want["p"]}, want)
}

// Test101Limit: a version has at most MaxNames names, whoever makes it.
func Test101Limit(t *testing.T) {
	r := fresh(t, api.MaxDisk)
	for i := range api.MaxNames {
		r.loads(t, fmt.Sprint("n", i), "id:int|1")
	}
	for range 2 {
		tells(t, "Load", r.e.Load("more", tab(t, "id:int|2")), api.ErrLimit)
		r.fails(t, "in n1: id int; job a = distinct n1; out more = a;", api.ErrLimit, -1)
		r.loads(t, "n7", "id:int|2")
		r.runs(t, "in n1: id int; job a = distinct n1; out n1 = a;", 0, 1)
		tells(t, "Back", r.e.Back(3), api.OK)
		r = crashed(t, r.d)
	}
}

// Test101Back: all names of an elder version are what they were in it, and those that came behind it stay.
func Test101Back(t *testing.T) {
	r := both(t, 1000)
	r.loads(t, "p", "a:int|1")
	r.loads(t, "x", "a:int|2")
	want := []tables{{"p": people}, {"p": people, "q": marks}, {"p": "a:int|1", "q": marks}, {"p": "a:int|1", "q": marks, "x": "a:int|2"}}
	r.has(t, want...)
	for _, n := range []int{1, 4, 2, 0, 3, 5, 10, 0} {
		tells(t, "Back", r.e.Back(n), api.OK)
		next := last(want)
		if n > 0 {
			next = over(next, want[n-1])
		}
		want = append(want, next)
		r.has(t, want...)
		r = crashed(t, r.d)
		r.has(t, want...)
	}
	for _, n := range []int{-1, len(want) + 1, math.MinInt, math.MaxInt} {
		tells(t, fmt.Sprint("Back to ", n), r.e.Back(n), api.ErrMissing)
	}
	r.has(t, want...)
}

// Back to a version of an engine that has none.
func Test101BackToNothing(t *testing.T) {
	r := fresh(t, 100)
	tells(t, "Back", r.e.Back(1), api.ErrMissing)
	tells(t, "Back", r.e.Back(0), api.OK)
	tells(t, "Back", r.e.Back(0), api.OK)
	r.has(t, tables{}, tables{})
}

// writers are the calls that write, each as it tells its error.
func writers() map[string]func(*engine.Engine) error {
	return map[string]func(*engine.Engine) error{
		"Load": func(e *engine.Engine) error {
			return e.Load("x", api.Table{Cols: []api.Column{{Name: "new", Kind: api.Int}}})
		},
		"Back": func(e *engine.Engine) error { return e.Back(1) },
		"Run": func(e *engine.Engine) error {
			r := e.Run(heads+"job a = distinct p; job b = sort q by w; out r = a; out s = b;", nil)
			if r.Err == api.OK {
				return nil
			}
			return r.Err
		},
	}
}

// Test101State: when one of them told ErrDevice, all of them tell ErrState, ahead of all else, whatever the disk does; what there is may be asked.
func Test101State(t *testing.T) {
	for name, call := range writers() {
		for n := 0; ; n++ {
			r := both(t, 400)
			was := r.told(t)
			r.d.Fuse(n)
			err := call(r.e)
			if err == nil {
				break
			}
			tells(t, name, err, api.ErrDevice)
			for _, fuse := range []int{0, -1} {
				r.d.Fuse(fuse)
				tells(t, "Load", r.e.Load("x", tab(t, people)), api.ErrState)
				tells(t, "Load", r.e.Load("A", api.Table{}), api.ErrState)
				tells(t, "Back", r.e.Back(1), api.ErrState)
				tells(t, "Back", r.e.Back(-1), api.ErrState)
				r.fails(t, "", api.ErrState, -1)
				r.fails(t, "?", api.ErrState, -1)
				r.has(t, was...)
			}
			for other, call := range writers() {
				again := opened(t, r.d)
				version := again.e.Version()
				tells(t, other, call(again.e), api.OK)
				if again.e.Version() != version+1 {
					t.Fatalf("%s behind %s: version %d behind %d", other, name, again.e.Version(), version)
				}
			}
		}
	}
}

// Other errors are in nobody's way.
func Test101StateOfOthers(t *testing.T) {
	r := both(t, 400)
	for range 2 {
		tells(t, "Load", r.e.Load("A", api.Table{}), api.ErrName)
		tells(t, "Back", r.e.Back(99), api.ErrMissing)
		r.fails(t, "?", api.ErrForm, -1)
		r.fails(t, heads+"job a = distinct p; out r = a;", api.ErrNone, 0, 1)
	}
	r.loads(t, "p", people)
}

// Test101Full: where there is no room, it is told, nothing is changed, and what is there may be asked.
func Test101Full(t *testing.T) {
	in := map[int]int{} // how often a job had no room, or none had it
	for sectors := 8; sectors < 60; sectors++ {
		r := fresh(t, sectors)
		var there []tables
		for i, load := 0, true; ; i++ {
			name, x := fmt.Sprint("n", i%7), "id:int|"+fmt.Sprint(i%7)
			next, err := last(there), error(nil)
			if load {
				next, err = over(next, tables{name: x}), r.e.Load(name, tab(t, x))
			} else {
				err = r.e.Back(0)
			}
			if err == nil {
				there = append(there, next)
				continue
			}
			tells(t, "Load, or Back", err, api.ErrFull)
			r.has(t, there...)
			if !load {
				break
			}
			load = false
		}
		r.fails(t, "", api.ErrFull, -1)
		if len(there) > 0 {
			tells(t, "Load", r.e.Load("n0", tab(t, "id:int|0")), api.ErrFull)
			got := r.e.Run("in n0: id int; job a = sort n0 by id; out n0 = a;", nil)
			if got != (engine.Report{Err: api.ErrFull, Job: got.Job}) {
				t.Fatalf("Run: %+v", got)
			}
			in[got.Job]++
		}
		r.has(t, there...)
		crashed(t, r.d).has(t, there...)
	}
	if in[0] == 0 || in[-1] == 0 || len(in) > 2 {
		t.Errorf("no room in %v", in)
	}
}

// budget counts what a disk must have room for.
type budget struct{ bytes, half int }

// table counts one that was loaded, or made.
func (b *budget) table(s string) { b.bytes += len(lines(s)) + 400 }

// version counts one of so many names.
func (b *budget) version(names int) { b.bytes += 200 + 100*names }

// fits says whether there must be room.
func (b *budget) fits() bool { return b.bytes <= b.half }

// Test101Room: never ErrFull while what there is takes at most half of the disk: small tables and great ones, few names and many, jobs that make one table or two.
func Test101Room(t *testing.T) {
	for _, f := range []struct {
		s              string
		whole, nothing int // tables that it makes: with all rows, with none
	}{
		{"job a = set p: id = id + 1; out p = a;", 1, 0},
		{"job a, b = split p where id < 0; job c = set b: id = id + 1; out p = c;", 2, 1},
		{"job a = project p by id; job b = set a: id = id + 1; out p = b;", 2, 0},
		{"job b = set p: id = id + 1; job a = filter b where id >= -999999999; out q = a; out p = b;", 2, 0},
	} {
		for _, rows := range []int{1, 2, 60} {
			for _, names := range []int{0, 1, 40} {
				sectors := []int{3000, 8000}[names/40]
				r := fresh(t, sectors)
				b := &budget{half: sectors * api.Sector / 2}
				for i := range names {
					r.loads(t, fmt.Sprint("n", i), "id:int")
					b.table("id:int")
					b.version(i + 1)
				}
				x := "id:int" + strings.Repeat("|1000", rows)
				r.loads(t, "p", x)
				b.table(x)
				b.version(names + 1)
				times := 0
				for {
					for range f.whole {
						b.table(x)
					}
					for range f.nothing {
						b.table("id:int")
					}
					b.version(names + 2)
					if !b.fits() {
						break
					}
					if got := r.e.Run("in p: id int; "+f.s, nil); got.Err != api.OK || got.Known > f.nothing {
						t.Fatalf("%s, %d rows, %d names: %+v at %d bytes of %d", f.s, rows, names, got, b.bytes, b.half)
					}
					times++
				}
				if times < 10 {
					t.Errorf("%s, %d rows, %d names: %d times", f.s, rows, names, times)
				}
			}
		}
	}
}

// Loads alone, and Backs, of any tables, have room, too.
func Test101RoomOfLoads(t *testing.T) {
	n := drawn(101)
	for range 60 {
		sectors := 30 + n(1500)
		r := fresh(t, sectors)
		b := &budget{half: sectors * api.Sector / 2}
		most := 1 + n(60)
		for {
			x := "id:int w:text" + strings.Repeat(fmt.Sprintf("|%d '%d'", n(1000), n(1000)), n(most))
			name := fmt.Sprint("n", n(most))
			back := n(4) == 0
			names, _ := r.e.Names(r.e.Version())
			if !back {
				b.table(x)
			}
			b.version(len(names) + 1)
			if !b.fits() {
				break
			}
			if back {
				tells(t, "Back", r.e.Back(n(r.e.Version()+1)), api.OK)
			} else {
				r.loads(t, name, x)
			}
		}
	}
}

// TestP4: what is handed in is neither kept nor written into; what comes out is the caller's.
func TestP4(t *testing.T) {
	r := fresh(t, 400)
	x := tab(t, people)
	x.Cols = append(x.Cols, api.Column{Name: "behind", Kind: 9})[:3]
	x.Rows[0] = append(x.Rows[0], api.Value{Kind: 9})[:3]
	tells(t, "Load", r.e.Load("p", x), api.OK)
	if written(t, x) != people || x.Cols[:4][3].Name != "behind" || x.Rows[0][:4][3].Kind != 9 {
		t.Errorf("Load wrote into its table: %v", x)
	}
	x.Cols[0].Name = "other"
	x.Rows[0][0].Num = 77
	r.has(t, tables{"p": people})
	picks := []int{1, 3, 1, 99}
	r.runs(t, "in p: id int, n text, v int; job a retry 3 = distinct p; out r = a;", 1, 0, picks[:3]...)
	if !slices.Equal(picks, []int{1, 3, 1, 99}) {
		t.Errorf("Run wrote into its picks: %v", picks)
	}
	was := r.told(t)
	for _, name := range []string{"p", "r"} {
		a, _ := r.e.Table(name, 2)
		b, _ := r.e.Table(name, 2)
		a.Cols[0].Name = "other"
		a.Rows[0][0].Num = 77
		a.Rows[1] = nil
		if written(t, b) != was[1][name] {
			t.Errorf("two answers share memory: %v", b)
		}
	}
	names, _ := r.e.Names(2)
	names[0] = "other"
	r.has(t, was...)
}
