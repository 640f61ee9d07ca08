package table_test

import (
	"errors"
	"fmt"
	"math"
	"reflect"
	"strings"
	"testing"

	"foreman/api"
	"foreman/plain"
	"foreman/table"
)

func num(n int) api.Value     { return api.Value{Kind: api.Int, Num: n} }
func word(s string) api.Value { return api.Value{Kind: api.Text, Word: s} }

// ints are columns of kind Int that are called so.
func ints(names ...string) []api.Column {
	var l []api.Column
	for _, n := range names {
		l = append(l, api.Column{Name: n, Kind: api.Int})
	}
	return l
}

// rising is a table of one column, and rows from 0 on.
func rising(rows int) api.Table {
	t := api.Table{Cols: ints("n")}
	for i := range rows {
		t.Rows = append(t.Rows, []api.Value{num(i)})
	}
	return t
}

// numbers is the text of rising.
func numbers(rows int) string {
	s := "n:int\n"
	for i := range rows {
		s += fmt.Sprintln(i)
	}
	return s
}

// example is the document's first example.
func example() (api.Table, string) {
	t := api.Table{
		Cols: []api.Column{{Name: "id", Kind: api.Int}, {Name: "name", Kind: api.Text}},
		Rows: [][]api.Value{{num(1), word("a b")}, {num(-2), word("")}},
	}
	return t, "id:int name:text\n1 'a b'\n-2 ''\n"
}

// bare asks that an error is an Errno, and no At is in it.
func bare(t *testing.T, what string, err error, want api.Errno) {
	t.Helper()
	var at *api.At
	if api.Tell(err) != want || errors.As(err, &at) {
		t.Errorf("%s: error %v, want %v without a place", what, err, want)
	}
}

func Test11Name(t *testing.T) {
	for _, s := range []string{"a", "z", "a0", "z9", "id", "abcdefghij", "a123456789", "int", "in"} {
		if !table.Name(s) {
			t.Errorf("%q is a name", s)
		}
	}
	for _, s := range []string{"", "0", "1a", "A", "aB", "a_b", "a b", " a", "a ", "a\n", "a\x00", "ä", "abcdefghijk", strings.Repeat("a", 1000)} {
		if table.Name(s) {
			t.Errorf("%q is no name", s)
		}
	}
	for b := range 256 {
		c := byte(b)
		letter, digit := 'a' <= c && c <= 'z', '0' <= c && c <= '9'
		if table.Name(string([]byte{c})) != letter {
			t.Errorf("byte %d alone: want %v", b, letter)
		}
		if table.Name(string([]byte{'x', c})) != (letter || digit) {
			t.Errorf("byte %d behind a letter: want %v", b, letter || digit)
		}
	}
}

func Test11RightValue(t *testing.T) {
	right := []api.Value{num(0), num(1), num(-1), num(api.MaxNum), num(-api.MaxNum), word(""), word(" "), word("~"), word("a b"), word("0123456789abcdef")}
	for _, v := range right {
		if !table.RightValue(v) {
			t.Errorf("%v is right", v)
		}
	}
	wrong := []api.Value{
		{}, {Kind: 3}, {Kind: -1}, {Num: 1}, {Word: "a"}, {Kind: math.MaxInt}, {Kind: math.MinInt},
		num(api.MaxNum + 1), num(-api.MaxNum - 1), num(math.MaxInt), num(math.MinInt),
		{Kind: api.Int, Word: "a"}, {Kind: api.Int, Num: 1, Word: " "},
		{Kind: api.Text, Num: 1}, {Kind: api.Text, Num: -1, Word: "a"},
		word("0123456789abcdefg"), word(strings.Repeat("ä", 9)),
	}
	for _, v := range wrong {
		if table.RightValue(v) {
			t.Errorf("%v is not right", v)
		}
	}
	for b := range 256 {
		want := b >= 32 && b <= 126 && b != '\''
		if table.RightValue(word(string([]byte{'x', byte(b)}))) != want {
			t.Errorf("byte %d in a text: want %v", b, want)
		}
	}
}

func Test11Less(t *testing.T) {
	l := []api.Value{num(-api.MaxNum), num(-10), num(-9), num(-1), num(0), num(1), num(9), num(10), num(api.MaxNum), word(""), word(" "), word("0"), word("10"), word("9"), word("A"), word("a"), word("a "), word("aa"), word("b"), word("~")}
	for i, a := range l {
		for j, b := range l {
			if table.Less(a, b) != (i < j) {
				t.Errorf("Less(%v, %v): want %v", a, b, i < j)
			}
		}
	}
}

func Test11RightCols(t *testing.T) {
	right := [][]api.Column{
		ints("a"), ints("a", "b", "c", "d", "e", "f"), {{Name: "a", Kind: api.Text}},
		{{Name: "abcdefghij", Kind: api.Int}, {Name: "abcdefghi", Kind: api.Text}},
	}
	for _, l := range right {
		if !table.RightCols(l) {
			t.Errorf("%v are right", l)
		}
	}
	wrong := [][]api.Column{
		nil, {}, ints("a", "b", "c", "d", "e", "f", "g"), ints(""), ints("1"), ints("A"), ints("abcdefghijk"), ints("a", "b_"),
		ints("a", "a"), ints("a", "b", "a"), ints("a", "b", "c", "d", "e", "e"), {{Name: "a", Kind: api.Int}, {Name: "a", Kind: api.Text}},
		{{Name: "a"}}, {{Name: "a", Kind: 3}}, {{Name: "a", Kind: -1}}, {{Name: "a", Kind: api.Int}, {Name: "b", Kind: 0}},
	}
	for _, l := range wrong {
		if table.RightCols(l) {
			t.Errorf("%v are not right", l)
		}
	}
}

// wrongTables are tables that are not right, each by one thing.
func wrongTables() []api.Table {
	with := func(cols []api.Column, rows ...[]api.Value) api.Table { return api.Table{Cols: cols, Rows: rows} }
	texts := []api.Column{{Name: "a", Kind: api.Text}}
	return []api.Table{
		{}, with(nil, nil), with(nil, []api.Value{num(1)}), with(ints("a", "a"), []api.Value{num(1), num(1)}), with(ints("A")), with([]api.Column{{Name: "a", Kind: 3}}),
		rising(api.MaxRows + 1),
		with(ints("a"), nil), with(ints("a"), []api.Value{}), with(ints("a"), []api.Value{num(1), num(2)}), with(ints("a", "b"), []api.Value{num(1)}), with(ints("a"), []api.Value{num(1)}, nil),
		with(ints("a"), []api.Value{word("b")}), with(texts, []api.Value{num(1)}), with(texts, []api.Value{{}}),
		with(ints("a"), []api.Value{num(api.MaxNum + 1)}), with(ints("a"), []api.Value{num(1)}, []api.Value{{Kind: api.Int, Word: "b"}}),
		with(texts, []api.Value{word("'")}), with(texts, []api.Value{word("\n")}), with(texts, []api.Value{word("0123456789abcdefg")}),
	}
}

func Test11Right(t *testing.T) {
	e, _ := example()
	for _, x := range []api.Table{e, rising(0), rising(1), rising(api.MaxRows), {Cols: ints("a"), Rows: [][]api.Value{}}} {
		if !table.Right(x) {
			t.Errorf("%v is right", x)
		}
	}
	for _, x := range wrongTables() {
		if table.Right(x) {
			t.Errorf("%v is not right", x)
		}
	}
}

func Test12Value(t *testing.T) {
	for _, c := range []struct {
		v api.Value
		s string
	}{
		{num(0), "0"}, {num(7), "7"}, {num(-1), "-1"}, {num(10), "10"}, {num(api.MaxNum), "1000000000"}, {num(-api.MaxNum), "-1000000000"},
		{word(""), "''"}, {word(" "), "' '"}, {word("a b"), "'a b'"}, {word("12"), "'12'"}, {word("0123456789abcdef"), "'0123456789abcdef'"}, {word(`\"~`), `'\"~'`},
	} {
		if s := table.Value(c.v); s != c.s {
			t.Errorf("Value(%v) is %q, want %q", c.v, s, c.s)
		}
		if v, err := table.ParseValue(c.s); v != c.v || err != nil {
			t.Errorf("ParseValue(%q) is %v, %v, want %v", c.s, v, err, c.v)
		}
	}
}

func Test12ParseValueWrong(t *testing.T) {
	for _, s := range []string{
		"", " ", "-", "+", "--1", "+1", "-0", "00", "01", "-01", "1_0", "0x1", "1.0", "1e3", " 1", "1 ", "1\n", "a", "1a", "- 1",
		"1000000001", "-1000000001", "9223372036854775807", "9223372036854775808", "-9223372036854775808", strings.Repeat("9", 100),
		"'", "'a", "a'", "'''", "''''", "'a'b'", "'a''", "'a' ", " 'a'", "'a''b'", "'\n'", "'\x7f'", "'\x1f'", "'ä'", "'0123456789abcdefg'", `"a"`,
	} {
		v, err := table.ParseValue(s)
		bare(t, fmt.Sprintf("ParseValue(%q)", s), err, api.ErrForm)
		if v != (api.Value{}) {
			t.Errorf("ParseValue(%q) is %v beside its error", s, v)
		}
	}
}

func Test12Print(t *testing.T) {
	e, s := example()
	six := api.Table{Cols: ints("a", "b", "c", "d", "e", "f"), Rows: [][]api.Value{{num(1), num(2), num(3), num(4), num(5), num(6)}}}
	for _, c := range []struct {
		t api.Table
		s string
	}{
		{e, s}, {rising(0), "n:int\n"}, {rising(1), "n:int\n0\n"}, {rising(api.MaxRows), numbers(api.MaxRows)},
		{six, "a:int b:int c:int d:int e:int f:int\n1 2 3 4 5 6\n"},
	} {
		got, err := table.Print(c.t)
		if got != c.s || err != nil {
			t.Errorf("Print(%v) is %q, %v, want %q", c.t, got, err, c.s)
		}
	}
	for _, x := range wrongTables() {
		got, err := table.Print(x)
		bare(t, fmt.Sprintf("Print(%v)", x), err, api.ErrArg)
		if got != "" {
			t.Errorf("Print(%v) is %q beside its error", x, got)
		}
	}
}

func Test12Parse(t *testing.T) {
	e, s := example()
	for _, c := range []struct {
		s string
		t api.Table
	}{
		{s, e}, {"n:int\n", rising(0)}, {numbers(1), rising(1)}, {numbers(api.MaxRows), rising(api.MaxRows)},
		{"a:text b:int c:text\n' ' 0 'x  y'\n", api.Table{Cols: []api.Column{{Name: "a", Kind: api.Text}, {Name: "b", Kind: api.Int}, {Name: "c", Kind: api.Text}}, Rows: [][]api.Value{{word(" "), num(0), word("x  y")}}}},
	} {
		got, err := table.Parse(c.s)
		if !reflect.DeepEqual(got, c.t) || err != nil {
			t.Errorf("Parse(%q) is %v, %v, want %v", c.s, got, err, c.t)
		}
	}
}

func Test12ParseWrong(t *testing.T) {
	full := numbers(api.MaxRows)
	for _, c := range []struct {
		s     string
		e     api.Errno
		place int
	}{
		{"", api.ErrForm, 0}, {"\n", api.ErrForm, 0}, {"\nn:int\n", api.ErrForm, 0}, {"n\n", api.ErrForm, 0}, {"n:\n", api.ErrForm, 0}, {":int\n", api.ErrForm, 0}, {":\n", api.ErrForm, 0},
		{"n:int \n", api.ErrForm, 0}, {" n:int\n", api.ErrForm, 0}, {"n:int  m:int\n", api.ErrForm, 0}, {"n :int\n", api.ErrForm, 0}, {"n: int\n", api.ErrForm, 0}, {"n:int:\n", api.ErrForm, 0}, {"n::int\n", api.ErrForm, 0},
		{"N:int\n", api.ErrForm, 0}, {"n:Int\n", api.ErrForm, 0}, {"n:integer\n", api.ErrForm, 0}, {"n:int n:text\n", api.ErrForm, 0}, {"abcdefghijk:int\n", api.ErrForm, 0}, {"n:int\r\n", api.ErrForm, 0},
		{"a:int b:int c:int d:int e:int f:int g:int\n", api.ErrForm, 0}, {"a:int b:int c:int d:int e:int f:int \n", api.ErrForm, 0}, {"n:in", api.ErrForm, 0}, {"1\n", api.ErrForm, 0},
		{"n:int\n\n", api.ErrForm, 1}, {"n:int\n1\n\n", api.ErrForm, 2}, {"n:int\n1\n\n2\n", api.ErrForm, 2}, {"n:int\n01\n", api.ErrForm, 1}, {"n:int\n1 \n", api.ErrForm, 1}, {"n:int\n 1\n", api.ErrForm, 1},
		{"n:int\n1 2\n", api.ErrForm, 1}, {"n:int m:int\n1\n", api.ErrForm, 1}, {"n:int m:int\n1  2\n", api.ErrForm, 1}, {"n:int m:int\n1\t2\n", api.ErrForm, 1}, {"n:int\n'a'\n", api.ErrForm, 1}, {"n:text\n1\n", api.ErrForm, 1},
		{"n:int\n1\n2\nx\n4\ny\n", api.ErrForm, 3}, {"n:int\n1000000001\n", api.ErrForm, 1}, {"n:int\n-0\n", api.ErrForm, 1}, {"n:text\n'a\n", api.ErrForm, 1}, {"n:text\n'a\nb'\n", api.ErrForm, 1},
		{"n:text m:text\n'a 'b'\n", api.ErrForm, 1}, {"n:text m:text\n'a''b'\n", api.ErrForm, 1}, {"n:text m:text\n'a' b'\n", api.ErrForm, 1}, {"n:text\n'0123456789abcdefg'\n", api.ErrForm, 1},
		// A line feed is missing behind the last line, be the line itself right or wrong.
		{"n:int", api.ErrForm, 1}, {"n:int\n1", api.ErrForm, 2}, {"n:int\n1\n2", api.ErrForm, 3}, {"n:int\n1\nx", api.ErrForm, 2}, {full[:len(full)-1], api.ErrForm, 61},
		// Behind MaxRows rows.
		{full + "1\n", api.ErrLimit, 61}, {full + "1", api.ErrLimit, 61}, {full + "1\n2\nx\n", api.ErrLimit, 61}, {full + "x\n", api.ErrForm, 61}, {full + "\n", api.ErrForm, 61}, {full + "x\n1\n", api.ErrForm, 61},
		{full + "1 1\n", api.ErrForm, 61}, {full + "'a'\n", api.ErrForm, 61}, {strings.Replace(full, "\n7\n", "\n07\n", 1) + "1\n", api.ErrForm, 8},
	} {
		got, err := table.Parse(c.s)
		if e, place := plain.Place(err); e != c.e || place != c.place {
			t.Errorf("Parse(%.90q): error %d at %d, want %d at %d", c.s, e, place, c.e, c.place)
		}
		if got.Cols != nil || got.Rows != nil {
			t.Errorf("Parse(%.90q) is %v beside its error", c.s, got)
		}
	}
}

// drawn gives numbers that look drawn, the same each time.
func drawn(seed uint64) func(most int) int {
	return func(most int) int {
		seed = seed*6364136223846793005 + 1442695040888963407
		return int((seed >> 33) % uint64(most))
	}
}

// someTable is a right table.
func someTable(draw func(int) int) api.Table {
	cols := []api.Column{{Name: "id", Kind: api.Int}, {Name: "w", Kind: api.Text}, {Name: "n2", Kind: api.Int}, {Name: "t", Kind: api.Text}}
	x := api.Table{Cols: cols[:1+draw(4)]}
	for range draw(5) {
		var row []api.Value
		for _, c := range x.Cols {
			if c.Kind == api.Int {
				row = append(row, num(draw(2001)-1000))
			} else {
				row = append(row, word([]string{"", " ", "a", "a b", "0", "~:", "  "}[draw(7)]))
			}
		}
		x.Rows = append(x.Rows, row)
	}
	return x
}

// What is written is read as it was; what is spoilt is read only if it is written just so, and is told at the first line with which the text is none any more.
func Test12ThereAndBack(t *testing.T) {
	draw := drawn(1)
	for range 20000 {
		x := someTable(draw)
		s, err := table.Print(x)
		if err != nil {
			t.Fatalf("Print(%v): %v", x, err)
		}
		if y, err := table.Parse(s); err != nil || !reflect.DeepEqual(x, y) {
			t.Fatalf("Parse(%q) is %v, %v, want %v", s, y, err, x)
		}
		at := draw(len(s))
		spoilt := s[:at] + string("': 01-\nat"[draw(9)]) + s[at+draw(2):]
		y, err := table.Parse(spoilt)
		if err == nil {
			if again, err := table.Print(y); again != spoilt || err != nil {
				t.Fatalf("Parse(%q) is %v, which is printed %q, %v", spoilt, y, again, err)
			}
			continue
		}
		e, place := plain.Place(err)
		lines := strings.SplitAfter(spoilt, "\n")
		if e != api.ErrForm || place < 0 || place > len(lines) {
			t.Fatalf("Parse(%q): error %d at %d", spoilt, e, place)
		}
		if _, err := table.Parse(strings.Join(lines[:place], "")); place > 0 && place < len(lines) && err != nil {
			t.Fatalf("Parse(%q): error at %d, but a line ahead of it is wrong", spoilt, place)
		}
		if _, err := table.Parse(strings.TrimSuffix(strings.Join(lines[:min(place+1, len(lines))], ""), "\n") + "\n"); place < len(lines) && err == nil {
			t.Fatalf("Parse(%q): error at %d, but this line is right", spoilt, place)
		}
	}
}

// No call panics, whatever it is given.
func TestP1(t *testing.T) {
	kinds := []int{math.MinInt, -1, 0, api.Int, api.Text, 3, math.MaxInt}
	for _, k := range kinds {
		for _, l := range kinds {
			a, b := api.Value{Kind: k, Num: math.MinInt, Word: "'\n\xff"}, api.Value{Kind: l, Num: math.MaxInt}
			table.Less(a, b)
			table.Value(a)
			table.RightValue(b)
			table.Print(api.Table{Cols: []api.Column{{Name: "a", Kind: k}}, Rows: [][]api.Value{{b}, nil}})
		}
	}
	draw := drawn(2)
	for range 20000 {
		b := make([]byte, draw(30))
		for i := range b {
			b[i] = byte(draw(256))
		}
		table.Parse(string(b))
		table.Parse("n:int w:text\n" + string(b))
		table.ParseValue(string(b))
		table.Name(string(b))
	}
}

// What is handed in is not written into, nor what stands behind its length; what comes out is fresh.
func TestP4(t *testing.T) {
	x, s := example()
	y, _ := example()
	x.Cols = append(x.Cols, api.Column{Name: "behind", Kind: 9})[:2]
	x.Rows[0] = append(x.Rows[0], num(9))[:2]
	table.Print(x)
	table.Right(x)
	if !reflect.DeepEqual(x, y) || x.Cols[:3][2].Name != "behind" || x.Rows[0][:3][2] != num(9) {
		t.Errorf("Print, or Right, wrote into its table: %v", x)
	}
	a, _ := table.Parse(s)
	b, _ := table.Parse(s)
	a.Cols[0].Name = "other"
	a.Rows[0][0] = num(5)
	_ = append(a.Rows[0], num(6), num(6), num(6))
	if !reflect.DeepEqual(b, y) || !reflect.DeepEqual(a.Rows[1], y.Rows[1]) {
		t.Errorf("two answers share memory: %v", b)
	}
}
