package flow_test

import (
	"reflect"
	"strings"
	"testing"

	"foreman/api"
)

// Blanks and line feeds stand between tokens, any many, or none where none is needed.
func Test41Blanks(t *testing.T) {
	want := without(read(t, whole))
	for _, s := range []string{
		strings.ReplaceAll(whole, " ", "\n"),
		strings.ReplaceAll(whole, " ", " \n\n  "),
		"\n  " + whole + " \n \n",
		strings.NewReplacer(": ", ":", ", ", ",", "; ", ";", " = ", "=", " * ", "*", " >= ", ">=").Replace(whole),
		strings.NewReplacer(":", " : ", ",", " , ", ";", " ; ", ".", " . ", "-", "\n-\n ").Replace(whole),
	} {
		// A line feed in a QUOTED is none between tokens.
		s = strings.NewReplacer("'a\nb'", "'a b'", "'a \n\n  b'", "'a b'").Replace(s)
		if got := without(read(t, s)); !reflect.DeepEqual(got, want) {
			t.Errorf("%q: %v, want %v", s, got, want)
		}
	}
	for _, s := range []string{"", " ", "\n", " \n \n"} {
		if f := read(t, s); !reflect.DeepEqual(f, api.Flow{}) {
			t.Errorf("%q: %v, want the empty flow", s, f)
		}
	}
}

// Where a token ends what is no longer of it begins the next one.
func Test41TokensSideBySide(t *testing.T) {
	for _, c := range [][2]string{
		{"job a retry 3=distinct b;", "job a retry 3 = distinct b ;"},
		{"job a1b2 = distinct b3;", "job a1b2 = distinct b3 ;"},
		{"job a = filter b where c<>'x';", "job a = filter b where c <> 'x' ;"},
		{"job a = filter b where c='x';", "job a = filter b where c = 'x' ;"},
		{"job a = filter b where c<-1;", "job a = filter b where c < - 1 ;"},
		{"job a = filter b where c>=-1;", "job a = filter b where c >= - 1 ;"},
		{"job a = set b:c=1--1;", "job a = set b : c = 1 - - 1 ;"},
		{"job a = set b:c='x'*'y';", "job a = set b : c = 'x' * 'y' ;"},
		{"job a = set b:c=1+d;", "job a = set b : c = 1 + d ;"},
	} {
		got, want := without(read(t, c[0])), without(read(t, c[1]))
		if !reflect.DeepEqual(got, want) {
			t.Errorf("%q: %v, want %v", c[0], got, want)
		}
	}
	for _, s := range []string{
		"job a retry 1^x = distinct b;", // a NUMBER, then a WORD
		"job a retry 1^'x' = distinct b;",
		"job a = filter b where c <>^= 1;",
		"job a = filter b where c <^< 1;",
		"job a = filter b where c < ^> 1;",
		"job a = filter b where c < ^= 1;",
		"job a = filter b where c > ^= 1;",
		"job a = filter b where c =^< 1;",
		"job a = filter b where c =^> 1;",
		"job a = filter b where c =^= 1;",
		"job a = filter b where c >^< 1;",
		"job a = filter b where c = 'x'^'y';",
		"job a = filter b where c = 1 ^2;",
		"job a = filter b where c = -^-1;",
	} {
		wrong(t, api.ErrForm, s)
	}
}

// What begins no token is told ahead of all that is wrong with those that there are.
func Test41NoToken(t *testing.T) {
	begins := "abcdefghijklmnopqrstuvwxyz0123456789<>=+-*,;:. \n"
	for b := range 256 {
		c := string([]byte{byte(b)})
		if strings.Contains(begins, c) {
			continue
		}
		wrongAt(t, api.ErrForm, 0, c)
		wrongAt(t, api.ErrForm, 3, "in "+c+"a: b int;")
		wrongAt(t, api.ErrForm, 13, "in a: b int; "+c)
		wrongAt(t, api.ErrForm, 20, "= = = abcdefghijklm "+c)
		wrongAt(t, api.ErrForm, 4, "in a"+c)
	}
	wrong(t, api.ErrForm, "job a = filter b where c = ^'d;")
	wrong(t, api.ErrForm, "job a = filter b where c = 'd'^';")
	wrong(t, api.ErrForm, "= 'abcdefghijklmnopqrstuvwxyz' ^' ")
	wrong(t, api.ErrForm, strings.Repeat("out a = b; ", 17)+"^!")
}

// long is a text of so many tokens, 10 or more, that is a flow.
func long(tokens int) string {
	even := tokens%2 == 0
	s := "job a = project b by c"
	left := tokens - 8
	if !even {
		// An OUT has 5 tokens.
		left -= 5
	}
	s += strings.Repeat(", d", left/2) + ";"
	if !even {
		s += " out a = b;"
	}
	return s
}

func Test41MaxTokens(t *testing.T) {
	for _, n := range []int{api.MaxTokens - 1, api.MaxTokens} {
		f := read(t, long(n))
		if len(f.Jobs) != 1 {
			t.Errorf("%d tokens: %d jobs", n, len(f.Jobs))
		}
		read(t, long(n)+" \n ")
	}
	wrong(t, api.ErrLimit, strings.Replace(long(api.MaxTokens+1), "b;", "b^;", 1))
	wrong(t, api.ErrLimit, long(api.MaxTokens)+" \n^out a = b;")
	wrong(t, api.ErrLimit, long(api.MaxTokens)+"^'a' !")
	wrong(t, api.ErrForm, long(api.MaxTokens)+" ^! out")
	wrong(t, api.ErrForm, long(api.MaxTokens)+"^'a")
	wrong(t, api.ErrForm, long(api.MaxTokens-1)+"^!")
	// It is told ahead of what is wrong to the left of it.
	wrong(t, api.ErrLimit, strings.Repeat("= ", api.MaxTokens)+"^=")
	wrong(t, api.ErrLimit, "abcdefghijklm"+strings.Repeat(";", api.MaxTokens-1)+"^1'")
	wrong(t, api.ErrForm, "^"+strings.Repeat("= ", api.MaxTokens))
	wrong(t, api.ErrLimit, strings.Repeat("in a: b int;", api.MaxTokens/6)+strings.Repeat(";", api.MaxTokens%6)+"^;")
}

// Each form that the grammar has is read, with names that are words of the grammar, too.
func Test41Grammar(t *testing.T) {
	for _, p := range parts(3) {
		for _, name := range names("a b9 in job out int text retry filter split where set project sort by union distinct join group sum max abcdefghij") {
			s := strings.ReplaceAll(p, "N", name)
			f := read(t, s)
			if len(f.Ins)+len(f.Jobs)+len(f.Outs) != 1 {
				t.Errorf("%q: %v", s, f)
			}
		}
	}
	read(t, "in a: b int; in a: b int; job a = distinct b; job a = distinct b; out a = b; out a = b;")
	read(t, "in a: b int; out a = b;")
	read(t, "job a = distinct b; out a = b;")
	read(t, "in a: b int; job a = distinct b;")
	// How many columns and tables there are, and what they are called, is nothing to Parse.
	read(t, "in a: b int, b int, b int, b int, b int, b int, b int; job a, a, a = distinct a; job a = split b where c = 1;")
}

// beginnings are all beginnings of parts, ended by a blank each.
func beginnings() map[string]bool {
	all := map[string]bool{}
	for _, p := range parts(3) {
		s := ""
		for _, x := range strings.Split(p, " ") {
			s += x + " "
			all[s] = true
		}
	}
	return all
}

// A token that may not stand in its place is told there, whatever stands behind it; if one is missing, the text's end is.
func Test41FirstThatMayNotStandThere(t *testing.T) {
	tokens := names("in job out int text bool retry filter split where set project sort by union distinct join group sum max min zz abcdefghijk 1 9999999999 'a' <> <= >= < > = + - * , ; : .")
	all := beginnings()
	// Lists of three show what may stand behind those of two.
	for _, p := range parts(2) {
		l := strings.Split(p, " ")
		for i := range l {
			ahead := ""
			if i > 0 {
				ahead = strings.Join(l[:i], " ") + " "
			}
			text := strings.ReplaceAll(ahead, "N", "a")
			if i > 0 {
				wrong(t, api.ErrForm, text+"\n ^")
				wrong(t, api.ErrForm, strings.TrimSpace(text)+"^")
			}
			for _, x := range tokens {
				if !all[ahead+x+" "] && !all[ahead+class(x)+" "] {
					wrong(t, api.ErrForm, text+"^"+x+" "+strings.ReplaceAll(strings.Join(l[i:], " "), "N", "a"))
				}
			}
		}
	}
}

// class is what a token may stand for in a part.
func class(x string) string {
	switch {
	case 'a' <= x[0] && x[0] <= 'z':
		return "N"
	case '0' <= x[0] && x[0] <= '9':
		return "1"
	}
	return x
}

// INs stand ahead of JOBs, and these ahead of OUTs; nothing else stands between them.
func Test41Parts(t *testing.T) {
	in, job, out := "in a: b int; ", "job a = distinct b; ", "out a = b; "
	for _, s := range []string{
		job + "^" + in, out + "^" + in, out + "^" + job, in + job + "^" + in, in + job + out + "^" + job, in + job + out + "^" + in, in + out + "^" + job,
		in + "^; ", job + "^;", out + "^;", "^;", in + "^a", in + "^1", out + "^'a'", "^where", in + "^outs a = b;", "^ins a: b int;",
	} {
		wrong(t, api.ErrForm, s)
	}
}

// A NAME has at most MaxName letters, wherever it stands; what is wrong ahead of it is told first.
func Test41LongNames(t *testing.T) {
	for _, p := range parts(2) {
		l := strings.Split(p, " ")
		for i, x := range l {
			if x != "N" {
				continue
			}
			ahead := strings.ReplaceAll(strings.Join(l[:i], " "), "N", "a")
			behind := strings.ReplaceAll(strings.Join(l[i+1:], " "), "N", "a")
			read(t, ahead+" abcdefghij "+behind)
			read(t, ahead+" a123456789 "+behind)
			for _, name := range []string{"abcdefghijk", "a1234567890", strings.Repeat("z", 1000)} {
				wrong(t, api.ErrLimit, ahead+" ^"+name+" "+behind)
				wrong(t, api.ErrLimit, ahead+" ^"+name+" = = 1 "+name)
				wrong(t, api.ErrLimit, ahead+" ^"+name)
			}
		}
	}
	wrong(t, api.ErrForm, "in a: b ^abcdefghijk;") // no KIND, and no NAME either
	wrong(t, api.ErrForm, "^abcdefghijk a: b int;")
	wrong(t, api.ErrForm, "job a = ^abcdefghijk b;")
	wrong(t, api.ErrForm, "job a ^abcdefghijk 1 = distinct b;")
	wrong(t, api.ErrForm, "job a = distinct b ^abcdefghijk;")
}

func Test41Retry(t *testing.T) {
	many := strings.Repeat("0", 5000)
	for s, want := range map[string]int{"0": 0, "1": 1, "4": 4, "5": 5, "00": 0, "05": 5, many + "3": 3, many: 0} {
		f := read(t, "job a retry "+s+" = distinct b;")
		if got := f.Jobs[0].Retry; got != want {
			t.Errorf("retry %.20s: %d, want %d", s, got, want)
		}
	}
	for _, s := range []string{"6", "10", "06", "50", "1000000001", "9223372036854775807", "9223372036854775808", "18446744073709551616", "18446744073709551619", strings.Repeat("9", 5000)} {
		wrong(t, api.ErrLimit, "job a retry ^"+s+" = distinct b;")
		wrong(t, api.ErrLimit, "job a retry ^"+s+" distinct")
	}
	wrong(t, api.ErrForm, "job a retry ^-1 = distinct b;")
	wrong(t, api.ErrForm, "job a retry ^'1' = distinct b;")
	wrong(t, api.ErrForm, "job a retry ^= distinct b;")
	wrong(t, api.ErrForm, "job a retry 1 ^retry 1 = distinct b;")
	wrong(t, api.ErrForm, "job a retry 1^, b = distinct b;")
}

// around are texts in which an ARG stands in each place in which one may, at ?.
func around() []string {
	return []string{
		"job a = filter b where c < ?;", "job a = split b where c = ?;",
		"job a = set b: c = ? + d;", "job a = set b: c = d - ?;", "job a = set b: c = -1 * ?;",
	}
}

// given is the ARG at ? of such a text.
func given(t *testing.T, s, arg string) api.Arg {
	t.Helper()
	j := read(t, strings.Replace(s, "?", arg, 1)).Jobs[0]
	if strings.Contains(s, "= ? +") {
		return j.Left
	}
	return j.Right
}

func Test41Numbers(t *testing.T) {
	many := strings.Repeat("0", 5000)
	for _, s := range around() {
		ahead, _, _ := strings.Cut(s, "?")
		for arg, want := range map[string]int{
			"0": 0, "7": 7, "007": 7, "1000000000": api.MaxNum, "0001000000000": api.MaxNum, many + "12": 12, many: 0,
			"-0": 0, "-7": -7, "- 7": -7, "-\n \n007": -7, "-1000000000": -api.MaxNum, "-" + many + "1000000000": -api.MaxNum, "- 00": 0,
		} {
			if got := given(t, s, arg); got != value(num(want)) {
				t.Errorf("%s with %.30s: %v, want %d", s, arg, got, want)
			}
		}
		for _, arg := range []string{"1000000001", "01000000001", "9999999999", "4294967296", "9223372036854775807", "9223372036854775808", "18446744073709551616", "18446744073709551617", strings.Repeat("1", 5000)} {
			for _, sign := range []string{"", "-", "- ", "-\n"} {
				wrong(t, api.ErrLimit, strings.Replace(s, "?", sign+"^"+arg, 1))
				wrong(t, api.ErrLimit, ahead+sign+"^"+arg)
			}
		}
		for _, arg := range []string{"-^a", "-^'a'", "-^-1", "-^;", "^+1", "^*", "^<", "1^.5", "1^a", "1^-"} {
			if arg == "1^-" && strings.Contains(s, "? +") {
				continue // it is the OP there
			}
			wrong(t, api.ErrForm, strings.Replace(s, "?", arg, 1))
		}
	}
}

func Test41Quoted(t *testing.T) {
	for _, s := range around() {
		ahead, _, _ := strings.Cut(s, "?")
		for _, arg := range []string{"", " ", "a", "A~!\"#", "in; job", "<>=", "1", "-1", strings.Repeat("x", api.MaxWord), strings.Repeat(" ", api.MaxWord)} {
			if got := given(t, s, "'"+arg+"'"); got != value(word(arg)) {
				t.Errorf("%s with %q: %v", s, arg, got)
			}
		}
		for _, arg := range []string{strings.Repeat("x", api.MaxWord+1), strings.Repeat(" ", 1000), "\n", "a\nb", "\t", "\x00", "\x1f", "\x7f", "\x80", "\xff", "ä"} {
			wrong(t, api.ErrLimit, strings.Replace(s, "?", "^'"+arg+"'", 1))
			wrong(t, api.ErrLimit, ahead+"^'"+arg+"'")
		}
	}
	// Where no QUOTED may stand it is of another form, whatever is in it.
	wrong(t, api.ErrForm, "job ^'\n' = distinct b;")
	wrong(t, api.ErrForm, "job a = filter b where ^'abcdefghijklmnopqrstuvwxyz' = 1;")
}

// At most MaxJobs of each of the three may stand there.
func Test41MaxJobs(t *testing.T) {
	in, job, out := "in a: b int; ", "job a = distinct b; ", "out a = b; "
	ins, jobs, outs := strings.Repeat(in, api.MaxJobs), strings.Repeat(job, api.MaxJobs), strings.Repeat(out, api.MaxJobs)
	f := read(t, ins+jobs+outs)
	if len(f.Ins) != api.MaxJobs || len(f.Jobs) != api.MaxJobs || len(f.Outs) != api.MaxJobs {
		t.Errorf("%d INs, %d JOBs, %d OUTs", len(f.Ins), len(f.Jobs), len(f.Outs))
	}
	for _, s := range []string{
		ins + "^" + in, jobs + "^" + job, outs + "^" + out, ins + jobs + "^" + job, ins + jobs + outs + "^" + out, in + job + outs + "^" + out + job,
		// Whatever comes behind it.
		ins + "^in", jobs + "^job", outs + "^out", ins + "^in = =", jobs + "^job abcdefghijk", outs + "^out 1",
		// Out of its place it is one too many as well.
		ins + job + "^" + in, ins + out + "^" + in, jobs + out + "^" + job, ins + jobs + outs + "^" + job,
	} {
		wrong(t, api.ErrLimit, s)
	}
	for _, s := range []string{
		in + jobs + "^" + in, job + outs + "^" + job, ins + "^a", ins + jobs + "^a", ins + "^;", ins + "^inn", jobs + "^jobs", outs + "^1",
		ins + "job a = distinct b ^in",
	} {
		wrong(t, api.ErrForm, s)
	}
	read(t, ins+"job in = distinct in; out in = job;")
}
