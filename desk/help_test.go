package desk_test

import (
	"strings"
	"testing"

	"foreman/desk"
)

// Lines that load tables, and lines that make a flow of them.
const (
	loadP  = "load p id:int n:text v:int|1 'a' 5|2 'b' -3|3 'a' 7|"
	loadQ  = "load q id:int w:int|1 10|3 30|"
	heads  = "in p: id int, n text, v int; in q: id int, w int; "
	checkA = "check " + heads + "job b = sort a by v; job a retry 1 = join p.id, q.id; job c, d = split p where id < 2; out r = b; out s = d;"
)

// asked is a line, and its answer.
type asked struct{ line, answer string }

// answers asks, in one session, that each line is answered so.
func answers(t *testing.T, l ...asked) {
	t.Helper()
	var lines, want []string
	for _, a := range l {
		lines, want = append(lines, a.line), append(want, a.answer)
	}
	got := split(t, desk.Session(strings.Join(lines, "\n")+"\n"))
	if len(got) != len(want) {
		t.Fatalf("%d lines are answered by %d: %.900q", len(want), len(got), got)
	}
	for i := range want {
		if got[i] != want[i] {
			t.Errorf("line %d, %.200q: %.300q, want %.300q", i, lines[i], got[i], want[i])
		}
	}
}

// split are the lines of a session's answer: behind each stands a line feed.
func split(t *testing.T, s string) []string {
	t.Helper()
	s, ended := strings.CutSuffix(s, "\n")
	if !ended {
		t.Fatalf("no line feed behind the last line: %.300q", s)
	}
	return strings.Split(s, "\n")
}

// likewise are lines that are all answered so.
func likewise(answer string, lines ...string) []asked {
	var l []asked
	for _, line := range lines {
		l = append(l, asked{line, answer})
	}
	return l
}

// behind are what was asked first, and others behind it.
func behind(l []asked, others ...asked) []asked { return append(l[:len(l):len(l)], others...) }

// both are lines that load p and q, and make a flow of them.
func both() []asked {
	return []asked{{loadP, "load 1"}, {loadQ, "load 2"}, {checkA, "check 6"}}
}

// drawn gives numbers that look drawn, the same each time.
func drawn(seed uint64) func(most int) int {
	return func(most int) int {
		seed = seed*6364136223846793005 + 1442695040888963407
		return int((seed >> 33) % uint64(most))
	}
}
