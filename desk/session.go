package desk

import (
	"strings"

	"foreman/api"
	"foreman/disk"
	"foreman/engine"
	"foreman/flow"
	"foreman/plan"
	"foreman/sum"
	"foreman/table"
)

// In answers, and in tables that are loaded, a bar stands for a line feed, as each is one line.
const (
	bar      = "|"
	lineFeed = "\n"
)

// helped are the words by which lines begin.
const helped = "back check crash fuse get help load names new order print run sum version"

// session is a disk, its engine, and a flow: the text of the last one that was found right.
type session struct {
	disk   *disk.Disk
	engine *engine.Engine
	flow   string
}

// begin takes a new disk of so many sectors, on which nothing lies, and the empty flow.
func (s *session) begin(sectors int) {
	d, err := disk.New(sectors)
	must(err)
	e, err := engine.Open(d)
	must(err)
	*s = session{disk: d, engine: e}
}

// parsed is the flow as it is read.
func (s *session) parsed() api.Flow {
	f, err := flow.Parse(s.flow)
	must(err)
	return f
}

// The methods below are what lines do: words are those behind the first one, as many as commands says. Numbers are read ahead of all that changes something.

func (s *session) fresh(words []string) string {
	s.begin(number(words[0]))
	return "new"
}

func (s *session) load(words []string) string {
	t, err := table.Parse(strings.ReplaceAll(text(words[1:]), bar, lineFeed))
	must(err)
	must(s.engine.Load(words[0], t))
	return numbers("load", s.engine.Version())
}

func (s *session) check(words []string) string {
	f, err := flow.Parse(text(words))
	must(err)
	columns, err := plan.Check(f)
	must(err)
	s.flow = text(words)
	return numbers("check", len(columns))
}

func (s *session) order([]string) string {
	l, err := plan.Order(s.parsed())
	must(err)
	return numbers("order", l...)
}

func (s *session) print([]string) string {
	return "print " + barred(flow.Print(s.parsed()))
}

func (s *session) run(words []string) string {
	var picks []int
	for _, w := range words {
		picks = append(picks, number(w))
	}
	r := s.engine.Run(s.flow, picks)
	if r.Err != api.OK {
		return numbers("failed", int(r.Err), r.Job)
	}
	return numbers("run", r.Version, r.Done, r.Known)
}

func (s *session) get(words []string) string {
	t, err := s.engine.Table(words[0], number(words[1]))
	must(err)
	printed, err := table.Print(t)
	must(err)
	return "get " + barred(printed)
}

func (s *session) names(words []string) string {
	l, err := s.engine.Names(number(words[0]))
	must(err)
	return text(append([]string{"names"}, l...))
}

func (s *session) back(words []string) string {
	must(s.engine.Back(number(words[0])))
	return numbers("back", s.engine.Version())
}

func (s *session) version([]string) string { return numbers("version", s.engine.Version()) }

func (s *session) sum(words []string) string { return "sum " + sum.Hex(sum.Sum(text(words))) }

func (s *session) fuse(words []string) string {
	s.disk.Fuse(number(words[0]))
	return "fuse"
}

func (s *session) crash(words []string) string {
	var keeps []bool
	for i := range len(words[0]) {
		keeps = append(keeps, words[0][i] == '1')
	}
	s.disk.Crash(keeps)
	e, err := engine.Open(s.disk)
	must(err)
	s.engine = e
	return numbers("crash", e.Version())
}

func (s *session) help([]string) string { return helped }

// text are words with one blank between.
func text(words []string) string { return strings.Join(words, " ") }

// barred is a text in one line.
func barred(s string) string { return strings.ReplaceAll(s, lineFeed, bar) }
