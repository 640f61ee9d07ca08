package desk_test

import (
	"crypto/sha256"
	"encoding/hex"
	"fmt"
	"slices"
	"strings"
	"testing"

	"foreman/api"
	"foreman/desk"
)

// tells asks what a session answers.
func tells(t *testing.T, text, want string) {
	t.Helper()
	if got := desk.Session(text); got != want {
		t.Errorf("%d bytes, %.100q: %.300q, want %.300q", len(text), text, got, want)
	}
}

// Test111Limit: a text of more than MaxText bytes is not looked at.
func Test111Limit(t *testing.T) {
	blanks := strings.Repeat(" ", api.MaxText-8)
	tells(t, "version\n"+blanks, "version 0\nok\n")
	tells(t, "version\n"+blanks+" ", "error 4\n")
	tells(t, "version"+blanks+"\n", "version 0\n")
	tells(t, "version"+blanks+"\n\n", "error 4\n")
	tells(t, strings.Repeat("\n", api.MaxText), strings.Repeat("ok\n", api.MaxText))
	tells(t, strings.Repeat("\n", api.MaxText+1), "error 4\n")
	tells(t, strings.Repeat("x", api.MaxText), "error 3\n")
	tells(t, strings.Repeat("x", api.MaxText+1), "error 4\n")
	// Bytes are counted, not letters.
	tells(t, strings.Repeat("ä", api.MaxText/2), "error 3\n")
	tells(t, strings.Repeat("ä", api.MaxText/2+1), "error 4\n")
	tells(t, strings.Repeat("help\n", 1<<20), "error 4\n")
}

// Test111Lines: one line feed at the text's end is left out; each line has its answer.
func Test111Lines(t *testing.T) {
	tells(t, "", "ok\n")
	tells(t, "\n", "ok\n")
	tells(t, "\n\n", "ok\nok\n")
	tells(t, " ", "ok\n")
	tells(t, " \n", "ok\n")
	tells(t, " \n ", "ok\nok\n")
	tells(t, "version", "version 0\n")
	tells(t, "version\n", "version 0\n")
	tells(t, "version\n\n", "version 0\nok\n")
	tells(t, "\nversion", "ok\nversion 0\n")
	tells(t, "run\n\nx\n   \nversion\nrun 0", "run 1 0 0\nok\nerror 3\nok\nversion 1\nrun 2 0 0\n")
}

// Test111Words: several blanks between words, and at both ends, are as one; nothing else is a blank.
func Test111Words(t *testing.T) {
	answers(t, behind(likewise("version 0", "version", " version", "version ", "   version   "),
		asked{"  load   p   id:int    n:text|1   'a'|  ", "load 1"},
		asked{" get  p  1 ", "get id:int n:text|1 'a'|"},
	)...)
	for _, b := range []string{"\t", "\r", "\v", "\f", "\x00", "\u00a0", "\u0085", "\u2003", "\u3000", "\xa0", "\x85", "\xff", "|", ","} {
		answers(t, behind(likewise("error 3", "version"+b, b+"version", b, "get"+b+"p 1", "names 0"+b, "fuse"+b+"1"),
			asked{" " + b + " ", "error 3"},
			asked{"sum a" + b + "b  c", "sum " + digest("a"+b+"b c")},
		)...)
	}
}

// digest is a text's sum, by the library.
func digest(s string) string {
	h := sha256.Sum256([]byte(s))
	return hex.EncodeToString(h[:])
}

// shortest has a right line of each word.
var shortest = map[string]string{
	"back": "back 0", "check": "check", "crash": "crash 0", "fuse": "fuse -1", "get": "get p 1", "help": "help", "load": loadP, "names": "names 0",
	"new": "new 100", "order": "order", "print": "print", "run": "run", "sum": "sum", "version": "version",
}

// many are those behind which any many words may stand.
var many = []string{"check", "load", "run", "sum"}

// Test111Form: another first word, or more or less words behind it than are told.
func Test111Form(t *testing.T) {
	var wrong []string
	for word, line := range shortest {
		words := strings.Fields(line)
		for n := 1; n < len(words); n++ {
			wrong = append(wrong, strings.Join(words[:n], " "))
		}
		if !slices.Contains(many, word) {
			wrong = append(wrong, line+" 1", line+" 1 1", line+" p", line+" "+word)
		}
		wrong = append(wrong, word+"x", "x"+word, word[:len(word)-1], word[1:], strings.ToUpper(word), strings.ToUpper(word[:1])+word[1:], "x "+line, "0 "+line, word+"|", word+".")
	}
	wrong = append(wrong, "load", "load p", "x", "ok", "error", "error 3", "failed", "exit", "1", "-1", "'help'", "|", "..", "new N")
	l := behind([]asked{{"new 100", "new"}}, likewise("error 3", wrong...)...)
	answers(t, behind(l, asked{loadP, "load 1"}, asked{"print", "print "})...)
}

// numbered are lines with a number in them.
var numbered = []string{"new %s", "run %s", "run 0 %s", "run %s 0", "run 0 0 %s 0", "get p %s", "names %s", "back %s", "fuse %s"}

// Test111Numbers: decimal, perhaps with -, no nought ahead, of 64 bits.
func Test111Numbers(t *testing.T) {
	wrong := []string{"x", "-", "+1", "+0", "-0", "00", "01", "-01", "007", "1.0", "1e1", "0x1", "1_0", "--1", "1-", "1,", "a1", "1a", "'1'", "٣", "½", "9223372036854775808", "-9223372036854775809", "18446744073709551615", "99999999999999999999999", strings.Repeat("9", 1000)}
	for _, line := range numbered {
		for _, n := range wrong {
			answers(t, asked{fmt.Sprintf(line, n), "error 3"}, asked{"version", "version 0"})
		}
		for _, n := range []string{"9223372036854775807", "-9223372036854775808", "-1", "-9", "10", "0"} {
			got := desk.Session(fmt.Sprintf(line, n))
			if got == "error 3\n" {
				t.Errorf(line+" is told as of another form", n)
			}
		}
	}
	// What is told of N is told ahead of all else.
	answers(t, asked{"get P x", "error 3"}, asked{"get P 9", "error 7"}, asked{"fuse 0", "fuse"}, asked{"run", "failed 14 -1"}, asked{"run", "failed 6 -1"}, asked{"run 0 x", "error 3"}, asked{"back x", "error 3"}, asked{"back 7", "error 6"})
}

// Test111New: a disk of so many sectors, an engine of it, the empty flow.
func Test111New(t *testing.T) {
	answers(t, behind(both(), likewise("error 2", "new 7", "new 0", "new -1", "new 16385", "new 9223372036854775807", "new -9223372036854775808")...)...)
	// What is wrong changes nothing.
	answers(t, behind(both(), asked{"new 7", "error 2"}, asked{"version", "version 2"}, asked{"order", "order 1 0 2"}, asked{"run", "run 3 3 0"})...)
	answers(t, behind(both(),
		asked{"fuse 0", "fuse"},
		asked{"new 8", "new"}, asked{"version", "version 0"}, asked{"names 0", "names"}, asked{"get p 1", "error 7"},
		asked{"order", "order"}, asked{"print", "print "},
		asked{"run", "run 1 0 0"}, asked{"run", "run 2 0 0"}, asked{"run", "run 3 0 0"}, asked{"run", "failed 12 -1"},
		asked{"new 16384", "new"}, asked{"version", "version 0"}, asked{loadP, "load 1"}, asked{loadQ, "load 2"}, asked{checkA, "check 6"}, asked{"run", "run 3 3 0"},
	)...)
}

// Test111First: at first the disk has 16384 sectors, neither more nor less.
func Test111First(t *testing.T) {
	for _, n := range []int{93, 94} { // so many names leave room for one version less where there is one sector less
		text := ""
		for i := range n {
			text += fmt.Sprintf("load a%d a:int|\n", i)
		}
		text += strings.Repeat("run\n", 300)
		got := desk.Session(text)
		if same := desk.Session("new 16384\n" + text); "new\n"+got != same {
			t.Errorf("%d names: another disk at first than one of 16384 sectors", n)
		}
		if less := desk.Session("new 16383\n" + text); "new\n"+got == less {
			t.Errorf("%d names: one sector less makes no difference", n)
		}
	}
	answers(t, asked{"version", "version 0"}, asked{"names 0", "names"}, asked{"order", "order"}, asked{"print", "print "}, asked{"run", "run 1 0 0"})
}

// Test111Load: a version in which a name is that table.
func Test111Load(t *testing.T) {
	answers(t,
		asked{"load p id:int|", "load 1"}, asked{"load abcdefghi0 a:text|'x y'|''|", "load 2"}, asked{"load p id:int|-5|", "load 3"},
		asked{"get p 1", "get id:int|"}, asked{"get abcdefghi0 3", "get a:text|'x y'|''|"}, asked{"get p 3", "get id:int|-5|"},
		asked{"load p a:text|'x   y'|", "load 4"}, asked{"get p 4", "get a:text|'x y'|"}, // one blank between words
		asked{"load p a:text|' '|", "load 5"}, asked{"get p 5", "get a:text|' '|"},
		asked{"load help a:int|", "load 6"}, asked{"load load load:int|", "load 7"},
	)
	wrong := []string{"load p |", "load p id:int", "load p id", "load p id:int|1", "load p id:int||", "load p |id:int|", "load p id:int|1|2", "load p id:int |", "load p id:int| 1|", "load p id:int|'a'|", "load p id:int|1 2|", "load p id:int id:int|", "load p id:float|", "load p a:text|'|'|", "load p a:text|'\xff'|", "load p id:int|1000000001|", "load p id:int\r|"}
	answers(t, behind(likewise("error 3", wrong...), asked{"version", "version 0"})...)
	// A wrong table is told ahead of a wrong name.
	answers(t, asked{"load P id|", "error 3"}, asked{"load P id:int|", "error 5"}, asked{"load abcdefghijk id:int|", "error 5"}, asked{"load 0 id:int|", "error 5"}, asked{"load ä id:int|", "error 5"}, asked{"version", "version 0"})
	rows := strings.Repeat("1|", api.MaxRows)
	answers(t, asked{"load p a:int|" + rows, "load 1"}, asked{"get p 1", "get a:int|" + rows}, asked{"load p a:int|" + rows + "1|", "error 4"}, asked{"load P a:int|" + rows + "1|", "error 4"}, asked{"load p a:int|" + rows + "x|", "error 3"})
}

// Test111Check: a flow, and how many tables it has.
func Test111Check(t *testing.T) {
	answers(t, asked{"check", "check 0"}, asked{"print", "print "}, asked{"check in p: id int;", "check 1"}, asked{"print", "print in p: id int;|"},
		asked{checkA, "check 6"},
		asked{"check  in p:id int;job a,b=split p where id<2;out r=a;out s=a;", "check 3"},
		asked{"check job   a=distinct p  ;", "error 7"},
	)
	// Parse's errors, then Check's.
	for line, want := range map[string]string{
		"check ?": "error 3", "check in": "error 3", "check in p: id int": "error 3", "check in p: id float;": "error 3", "check |": "error 3", "check in p: id int;|": "error 3",
		"check in abcdefghijk: id int;": "error 4", "check " + strings.Repeat("in p: id int; ", 17): "error 4", "check in p: id int; job a retry 6 = distinct p;": "error 4",
		"check in p: id int, id int;": "error 3", "check in p: id int; in p: id int;": "error 9", "check out r = a;": "error 7", "check in p: id int; out r = p; out r = p;": "error 9",
		"check job a = distinct b; job b = distinct a;": "error 11", "check in p: id int; job a = sort p by x;": "error 7", "check in p: n text; job a = set p: n = 1 + 2;": "error 13",
	} {
		tells(t, line, want+"\n")
		// What is wrong changes nothing.
		answers(t, behind(both(), asked{line, want}, asked{"order", "order 1 0 2"}, asked{"run", "run 3 3 0"})...)
	}
	// Blanks in a text of a flow are as others.
	answers(t, asked{"check in p: n text; job a = filter p where n = 'x   y';", "check 2"}, asked{"print", "print in p: n text;|job a = filter p where n = 'x y';|"})
}

// Test111Order: the order in which jobs come.
func Test111Order(t *testing.T) {
	answers(t, asked{"order", "order"}, asked{"check in p: id int;", "check 1"}, asked{"order", "order"},
		asked{"check in p: id int; job a = distinct p;", "check 2"}, asked{"order", "order 0"},
		asked{"check in p: id int; job a = distinct b; job b = distinct c; job c = distinct p; out r = a;", "check 4"}, asked{"order", "order 2 1 0"},
		asked{"check job a = distinct a;", "error 11"}, asked{"order", "order 2 1 0"})
}

// Test111Print: the flow as it is written, each line feed as a bar.
func Test111Print(t *testing.T) {
	answers(t, asked{"print", "print "},
		asked{"check in p:id int,n text;job a,b retry 02=split p where n<>'|';job c=set a:id=- 5*id;out r=c;", "check 4"},
		asked{"print", "print in p: id int, n text;|job a, b retry 2 = split p where n <> '|';|job c = set a: id = -5 * id;|out r = c;|"},
		asked{"check ?", "error 3"},
		asked{"print", "print in p: id int, n text;|job a, b retry 2 = split p where n <> '|';|job c = set a: id = -5 * id;|out r = c;|"},
		asked{"check", "check 0"}, asked{"print", "print "})
}

// Test111Run: the flow is run by these picks; what is wrong with it is told with its job.
func Test111Run(t *testing.T) {
	answers(t, behind(both(),
		asked{"run", "run 3 3 0"}, asked{"run", "run 4 0 3"}, asked{"run 0 0 0 0 0 1", "run 5 0 3"},
		asked{"get r 3", "get id:int n:text v:int w:int|1 'a' 5 10|3 'a' 7 30|"},
		asked{"get s 3", "get id:int n:text v:int|2 'b' -3|3 'a' 7|"},
		asked{"run 1", "run 6 0 3"},        // job 1 fails, and may
		asked{"run 1 1", "failed 8 1"},     // twice it may not
		asked{"run 1 3", "failed 8 2"},     // job 2 may not at all
		asked{"run 0 1", "failed 8 0"},     // job 0 may come behind job 1
		asked{"run -1", "failed 8 2"},      // half of 2^64 - 1 is odd
		asked{"run -2 -2 -2", "run 7 0 3"}, // and half of 2^64 - 2, too
		asked{"run 4 0 2 -8", "run 8 0 3"}, // each pick counts the jobs that may come
		asked{"version", "version 8"}, asked{"load p id:int|", "load 9"},
		asked{"run", "failed 13 -1"}, // p has other columns
		asked{"back 1", "back 10"}, asked{"run 0 0 0 -7", "run 11 0 3"},
	)...)
	answers(t, asked{checkA, "check 6"}, asked{"run", "failed 7 -1"}, asked{loadP, "load 1"}, asked{"run", "failed 7 -1"}, asked{"check", "check 0"}, asked{"run 1 1 1", "run 2 0 0"})
	answers(t, asked{"load p id:int|1000000000|", "load 1"}, asked{"check in p: id int; job b = distinct p; job a = set p: id = id + 1; out r = a;", "check 3"}, asked{"run", "failed 2 1"}, asked{"run 2", "failed 2 1"}, asked{"version", "version 1"}, asked{"check in p: id int; job b = distinct p; out r = b;", "check 2"}, asked{"run", "run 2 0 1"})
}

// Test111Get, and names: of all versions.
func Test111Get(t *testing.T) {
	answers(t, asked{"names 0", "names"}, asked{"names 1", "error 7"}, asked{"names -1", "error 7"}, asked{"get p 0", "error 7"}, asked{"get p 1", "error 7"},
		asked{"load q a:int|7|", "load 1"}, asked{"load b a:int|", "load 2"}, asked{"load q a:text|", "load 3"},
		asked{"names 0", "names"}, asked{"names 1", "names q"}, asked{"names 2", "names b q"}, asked{"names 3", "names b q"}, asked{"names 4", "error 7"},
		asked{"get q 1", "get a:int|7|"}, asked{"get q 2", "get a:int|7|"}, asked{"get q 3", "get a:text|"}, asked{"get q 4", "error 7"}, asked{"get q -3", "error 7"},
		asked{"get b 1", "error 7"}, asked{"get b 2", "get a:int|"}, asked{"get Q 3", "error 7"}, asked{"get 3 3", "error 7"}, asked{"get q 0", "error 7"})
}

// Test111Back: one version more, of what an elder one had.
func Test111Back(t *testing.T) {
	answers(t, asked{"back 1", "error 7"}, asked{"back -1", "error 7"}, asked{"load p a:int|1|", "load 1"}, asked{"load p a:int|2|", "load 2"}, asked{"load q a:int|3|", "load 3"},
		asked{"back 4", "error 7"}, asked{"version", "version 3"}, asked{"back 1", "back 4"}, asked{"names 4", "names p q"}, asked{"get p 4", "get a:int|1|"}, asked{"get p 3", "get a:int|2|"}, asked{"back 4", "back 5"}, asked{"version", "version 5"})
}

// Test111Sum: of the words, with one blank between.
func Test111Sum(t *testing.T) {
	answers(t, asked{"sum abc", "sum ba7816bf8f01cfea414140de5dae2223b00361a396177a9cb410ff61f20015ad"}, asked{"sum", "sum e3b0c44298fc1c149afbf4c8996fb92427ae41e4649b934ca495991b7852b855"}, asked{"sum   ", "sum " + digest("")},
		asked{"  sum  a   b  ", "sum " + digest("a b")}, asked{"sum sum", "sum " + digest("sum")}, asked{"sum a|b \xff", "sum " + digest("a|b \xff")}, asked{"sum " + strings.Repeat("a  ", 900), "sum " + digest(strings.TrimSpace(strings.Repeat("a ", 900)))})
}

// Test111Fuse: what is written behind it is not; when that was told, nothing is written until the disk is opened again.
func Test111Fuse(t *testing.T) {
	answers(t, behind(both(),
		asked{"fuse 0", "fuse"}, asked{"version", "version 2"}, asked{"load x a:int|", "error 14"}, asked{"load x a:int|", "error 6"}, asked{"load X a:int|", "error 6"}, asked{"load x a", "error 3"},
		asked{"back 1", "error 6"}, asked{"run", "failed 6 -1"}, asked{"version", "version 2"}, asked{"get p 1", "get id:int n:text v:int|1 'a' 5|2 'b' -3|3 'a' 7|"}, asked{"names 2", "names p q"},
		asked{"fuse -1", "fuse"}, asked{"load x a:int|", "error 6"}, asked{"order", "order 1 0 2"},
		asked{"crash 0", "crash 2"}, asked{"load x a:int|", "load 3"}, asked{"run", "run 4 3 0"},
		asked{"fuse 3", "fuse"}, asked{"fuse -9223372036854775808", "fuse"}, asked{"back 1", "back 5"}, asked{"fuse 9223372036854775807", "fuse"}, asked{"back 1", "back 6"}, asked{"fuse 0", "fuse"}, asked{"fuse 100", "fuse"}, asked{"back 1", "back 7"},
		asked{"fuse 0", "fuse"}, asked{"run", "failed 14 -1"}, asked{"crash 1", "crash 7"}, asked{"run", "run 8 0 3"},
	)...)
	answers(t, behind(both(), asked{"fuse 0", "fuse"}, asked{"run", "failed 14 1"}, asked{"new 100", "new"}, asked{loadP, "load 1"})...)
}

// Test111Crash: of what is not sure that is kept of which a letter says 1; the disk is opened again, and the flow stays.
func Test111Crash(t *testing.T) {
	answers(t, behind(both(), asked{"crash 0", "crash 2"}, asked{"order", "order 1 0 2"}, asked{"run", "run 3 3 0"}, asked{"crash 1", "crash 3"}, asked{"run", "run 4 0 3"}, asked{"fuse 0", "fuse"}, asked{"crash x", "crash 4"}, asked{"run", "run 5 0 3"}, asked{"crash " + strings.Repeat("1", 5000), "crash 5"})...)
	// Where all but the last Sync was done, the root alone is not sure: its version is there if that write is kept.
	for n := range 20 {
		lines := fmt.Sprintf("run\nfuse %d\nrun\ncrash ", n)
		for keeps, kept := range map[string]bool{"1": true, "11": true, "10": true, "0": false, "01": false, "x": false, "2": false, "\x01": false, "l": false, "ä1": false} {
			got := split(t, desk.Session(lines+keeps))
			switch {
			case got[2] == "run 2 0 0":
				if got[3] != "crash 2" {
					t.Fatalf("a version that was told is lost: %q", got)
				}
			case got[2] != "failed 14 -1":
				t.Fatalf("fuse %d: %q", n, got)
			case n == rootWritten(t) && kept && got[3] != "crash 2", !kept && got[3] != "crash 1":
				t.Fatalf("fuse %d, crash %q: %q", n, keeps, got)
			}
		}
	}
}

// rootWritten is the fuse at which the second version's root is written, but not made sure.
func rootWritten(t *testing.T) int {
	t.Helper()
	for n := range 20 {
		if split(t, desk.Session(fmt.Sprintf("run\nfuse %d\nrun", n)))[2] == "run 2 0 0" {
			return n - 1
		}
	}
	t.Fatal("a run takes 20 writes")
	return 0
}

// Test111Help: all words.
func Test111Help(t *testing.T) {
	answers(t, asked{"help", "back check crash fuse get help load names new order print run sum version"}, asked{" help ", "back check crash fuse get help load names new order print run sum version"})
}
