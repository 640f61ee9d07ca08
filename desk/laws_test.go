package desk_test

import (
	"fmt"
	"strconv"
	"strings"
	"testing"

	"foreman/api"
	"foreman/desk"
	"foreman/disk"
	"foreman/engine"
	"foreman/flow"
	"foreman/plan"
	"foreman/table"
)

// model does what lines say by the faces of the layers, and counts how often each word told an error, or none.
type model struct {
	d     *disk.Disk
	e     *engine.Engine
	f     api.Flow
	text  string
	times map[string]int
}

// line is the answer of a line that has words.
func (m *model) line(s string) string {
	words := strings.Fields(s)
	told, err := m.does(words[0], words[1:])
	if err != nil {
		m.times[words[0]+" error"]++
		return fmt.Sprint("error ", int(api.Tell(err)))
	}
	m.times[words[0]]++
	return told
}

// does does a line whose words are as many as there must be.
func (m *model) does(word string, l []string) (string, error) {
	var n int
	if len(l) > 0 {
		n, _ = strconv.Atoi(l[len(l)-1])
	}
	var err error
	switch word {
	case "new":
		d, err := disk.New(n)
		if err != nil {
			return "", err
		}
		e, err := engine.Open(d)
		*m = model{d: d, e: e, times: m.times}
		return "new", err
	case "load":
		t, err := table.Parse(strings.ReplaceAll(strings.Join(l[1:], " "), "|", "\n"))
		if err == nil {
			err = m.e.Load(l[0], t)
		}
		return fmt.Sprint("load ", m.e.Version()), err
	case "check":
		f, err := flow.Parse(strings.Join(l, " "))
		if err != nil {
			return "", err
		}
		cols, err := plan.Check(f)
		if err == nil {
			m.f, m.text = f, strings.Join(l, " ")
		}
		return fmt.Sprint("check ", len(cols)), err
	case "order":
		order, err := plan.Order(m.f)
		return strings.TrimSpace("order " + strings.Trim(fmt.Sprint(order), "[]")), err
	case "print":
		return "print " + strings.ReplaceAll(flow.Print(m.f), "\n", "|"), nil
	case "get":
		t, err := m.e.Table(l[0], n)
		s, _ := table.Print(t)
		return "get " + strings.ReplaceAll(s, "\n", "|"), err
	case "names":
		names, err := m.e.Names(n)
		return strings.TrimSpace("names " + strings.Join(names, " ")), err
	case "back":
		err := m.e.Back(n)
		return fmt.Sprint("back ", m.e.Version()), err
	case "version":
		return fmt.Sprint("version ", m.e.Version()), nil
	case "fuse":
		m.d.Fuse(n)
		return "fuse", nil
	case "crash":
		var keeps []bool
		for _, c := range []byte(l[0]) {
			keeps = append(keeps, c == '1')
		}
		m.d.Crash(keeps)
		m.e, err = engine.Open(m.d)
		return fmt.Sprint("crash ", m.e.Version()), err
	}
	return m.run(l), nil
}

// run runs the flow.
func (m *model) run(l []string) string {
	var picks []int
	for _, w := range l {
		n, _ := strconv.Atoi(w)
		picks = append(picks, n)
	}
	r := m.e.Run(m.text, picks)
	if r.Err != api.OK {
		m.times["failed"]++
		return fmt.Sprint("failed ", int(r.Err), " ", r.Job)
	}
	return fmt.Sprint("run ", r.Version, " ", r.Done, " ", r.Known)
}

// drawnFlow is a flow, often right.
func drawnFlow(n func(int) int) string {
	s, names := heads, []string{"p", "p", "q"}
	for i := range n(5) {
		a, b := names[n(len(names))], names[n(len(names))]
		o := string(rune('a' + i))
		s += "job " + o + []string{"", " retry 1", " retry 2"}[n(3)] + " = " + []string{
			"filter " + a + " where id < 2", "filter " + a + " where n = 'a'", "set " + a + ": id = id * 2", "set " + a + ": id = id + 999999999",
			"project " + a + " by id", "sort " + a + " by id", "union " + a + ", " + b, "distinct " + a, "join p.id, q.id", "group " + a + " by id max id",
		}[n(10)] + "; "
		names = append(names, o)
	}
	for i := range n(3) {
		s += fmt.Sprint("out ", []string{"r", "s", "p"}[i], " = ", names[n(len(names))], "; ")
	}
	if n(8) == 0 {
		at := n(len(s))
		s = s[:at] + s[at+1:]
	}
	return s
}

// drawnLine is a line whose words are as many as there must be.
func drawnLine(n func(int) int) string {
	number := func(most int) string { return strconv.Itoa(n(most) - 1) }
	switch n(22) {
	case 0, 1:
		return loadP
	case 2, 3:
		return loadQ
	case 4:
		return []string{"load x a:int|1|", "load X a:int|", "load x a:int", "load p id:int|", "load y a:text|'b c'|"}[n(5)]
	case 5, 6, 7:
		return "check " + drawnFlow(n)
	case 8, 9, 10, 11:
		s := "run"
		for range n(5) {
			s += " " + number(12)
		}
		return s
	case 12, 13:
		return "get " + []string{"p", "q", "r", "s", "x"}[n(5)] + " " + number(12)
	case 14:
		return "names " + number(9)
	case 15:
		return "back " + number(9)
	case 16:
		return "fuse " + number(30)
	case 17, 18:
		return "crash " + strings.Repeat("0", n(3)) + strings.Repeat("1", n(30)) + []string{"0", "1", "x"}[n(3)]
	case 19:
		if n(4) == 0 {
			return "new " + []string{"7", "60", "200", "2000"}[n(4)]
		}
	}
	return []string{"order", "print", "version"}[n(3)]
}

// Test111Drawn: sessions answer what the layers tell, whatever blanks stand between words.
func Test111Drawn(t *testing.T) {
	times := map[string]int{}
	for seed := range uint64(300) {
		n := drawn(seed)
		m := &model{times: times}
		var lines, want []string
		for i := range 60 {
			line := drawnLine(n)
			if i == 0 {
				line = "new 16384"
			}
			want = append(want, m.line(line))
			blanks := strings.Repeat(" ", 1+n(3))
			lines = append(lines, strings.Repeat(" ", n(2))+strings.ReplaceAll(line, " ", blanks)+strings.Repeat(" ", n(2)))
		}
		got := split(t, desk.Session(strings.Join(lines, "\n")))
		for i := range lines {
			if len(got) != len(want) || got[i] != want[i] {
				t.Fatalf("seed %d, line %d of %q: %q, want %q", seed, i, lines, got, want)
			}
		}
		// A disk of 16384 sectors is there at first.
		if first := split(t, desk.Session(strings.Join(lines[1:], "\n"))); strings.Join(first, "\n") != strings.Join(want[1:], "\n") {
			t.Fatalf("seed %d: %q: %q, want %q", seed, lines, first, want[1:])
		}
	}
	for _, word := range []string{"new", "new error", "load", "load error", "check", "check error", "order", "print", "get", "get error", "names", "names error", "back", "back error", "version", "fuse", "crash", "run", "failed"} {
		if times[word] < 10 {
			t.Errorf("%s is told %d times", word, times[word])
		}
	}
}

// Test111LineByLine: what a line answers hangs on those ahead of it alone; sessions know nothing of each other.
func Test111LineByLine(t *testing.T) {
	for seed := range uint64(20) {
		n := drawn(seed)
		text, last := "", ""
		for range 25 {
			text += drawnLine(n) + "\n"
			got := desk.Session(text)
			if !strings.HasPrefix(got, last) || strings.Count(got, "\n") != strings.Count(text, "\n") || got != desk.Session(text) {
				t.Fatalf("seed %d, %q: %q behind %q", seed, text, got, last)
			}
			last = got
		}
	}
}

// TestP1: whatever the bytes are, it ends, and each line has its answer.
func TestP1(t *testing.T) {
	words := strings.Fields("back check crash fuse get help load names new order print run sum version p q 0 1 -1 8 01 | ' in job out ; : = \xff \x00 \t ä")
	for seed := range uint64(300) {
		n := drawn(seed)
		var text []byte
		for range n(300) {
			switch n(4) {
			case 0:
				text = append(text, byte(n(256)))
			case 1:
				text = append(text, '\n')
			default:
				text = append(text, " "+words[n(len(words))]...)
			}
		}
		want := strings.Count(strings.TrimSuffix(string(text), "\n"), "\n") + 1
		if got := split(t, desk.Session(string(text))); len(got) != want {
			t.Fatalf("%q: %q", text, got)
		}
	}
}
