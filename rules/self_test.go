package rules

import (
	"strings"
	"testing"
)

// broken are texts of a package ops, and the rule that each breaks.
var broken = []struct{ name, rule, text string }{
	{"an import that may not be", "1", "import \"fmt\"\n\nfunc F() string { return fmt.Sprint(1) }\n"},
	{"the clock", "1", "import \"time\"\n\nfunc F() int { return time.Now().Second() }\n"},
	{"unsafe", "1", "import \"unsafe\"\n\nfunc F(n int) int { return int(unsafe.Sizeof(n)) }\n"},
	{"an import without a name", "1", "import . \"strings\"\n\nfunc F(s string) string { return ToUpper(s) }\n"},
	{"plain", "1", "import \"foreman/plain\"\n\nfunc F(err error) int {\n\t_, n := plain.Place(err)\n\treturn n\n}\n"},
	{"a layer below", "1", "import \"foreman/flow\"\n\nfunc F() int { return flow.N }\n"},
	{"sync.Map", "1", "import \"sync\"\n\nfunc F() {\n\tvar m sync.Map\n\tm.Clear()\n}\n"},
	{"iter.Pull", "1", "import \"iter\"\n\nfunc F(s iter.Seq[int]) {\n\t_, stop := iter.Pull(s)\n\tstop()\n}\n"},
	{"a line for the compiler", "2", "//go:noinline\nfunc F() int { return 1 }\n"},
	{"printing", "2", "func F() { println(1) }\n"},
	{"recover in a function", "3", "func F() { defer f() }\n\nfunc f() { recover() }\n"},
	{"recover that is not deferred", "3", "func F() {\n\tfunc() { recover() }()\n}\n"},
	{"runes of a constant", "3", "func F() []rune { return []rune(\"abc\") }\n"},
	{"a key stored into what is ranged over", "3", "func F(m map[int]int) {\n\tfor k := range m {\n\t\tm[k+1] = 1\n\t}\n}\n"},
	{"a map of bools", "3", "func F(s string) bool {\n\tm := map[string]bool{}\n\tm[s] = true\n\treturn m[\"a\"]\n}\n"},
	{"a map of texts", "3", "func F(s string) string {\n\tm := make(map[string]string)\n\tm[s] = s\n\treturn m[\"a\"]\n}\n"},
	{"a map of bools in a literal", "3", "func F(s string) func() bool {\n\treturn func() bool {\n\t\tm := map[string]bool{s: true}\n\t\treturn m[\"a\"]\n\t}\n}\n"},
	{"init", "3", "func init() {}\n"},
	{"a variable that is assigned", "3a", "var l = [2]int{1, 2}\n\nfunc F() { l[0] = 1 }\n"},
	{"a number that is counted up", "3a", "var n = 1\n\nfunc F() { n++ }\n"},
	{"an address that is taken", "3a", "var l = [2]int{1, 2}\n\nfunc F() *int { return &l[1] }\n"},
	{"a table that is sliced", "3a", "var l = [2]int{1, 2}\n\nfunc F() []int { return l[:] }\n"},
	{"a table that is handed out", "3a", "var l = []int{1, 2}\n\nfunc F() []int { return l }\n"},
	{"a value that names a variable", "3a", "var a = [1]int{1}\n\nvar b = [1]int{a[0]}\n\nfunc F() int { return b[0] }\n"},
	{"a great table", "3a", "var l = [...]uint64{" + strings.Repeat("1, ", 150) + "1}\n\nfunc F() uint64 { return l[0] }\n"},
	{"a great table that is not written out", "3a", "var l = [160]int{1}\n\nfunc F() int { return l[0] }\n"},
	{"many tables", "3a", "var a = [240]byte{1}\n\nvar b = [240]byte{1}\n\nvar c = [240]byte{1}\n\nfunc F() byte { return a[0] + b[0] + c[0] }\n"},
	{"a variable without a value", "3b", "var n int\n\nfunc F() int { return n }\n"},
	{"a text that is no constant", "3b", "var s = \"abc\"\n\nfunc F() string { return s }\n"},
	{"a map", "3b", "var m = map[int]int{1: 2}\n\nfunc F() int { return m[1] }\n"},
	{"a float", "3b", "var x = 1.5\n\nfunc F() bool { return x > 1 }\n"},
	{"a function", "3b", "var f = func() int { return 1 }\n\nfunc F() int { return f() }\n"},
	{"a value made by a call", "3b", "var n = F()\n\nfunc F() int { return 1 }\n"},
	{"a pointer", "3b", "var p = &struct{ n int }{1}\n\nfunc F() int { return p.n }\n"},
	{"a table of errors", "3b", "import \"errors\"\n\nvar l = [1]error{errors.New(\"a\")}\n\nfunc F() error { return l[0] }\n"},
	{"an assertion whose ok may not hold", "3c", "func F(x any) error {\n\te, _ := x.(error)\n\treturn e\n}\n"},
	{"an assertion with an else", "3c", "func F(x any) error {\n\tif e, ok := x.(error); ok {\n\t\treturn e\n\t} else {\n\t\treturn e\n\t}\n}\n"},
	{"a long function", "9", "func F() (n int) {\n" + strings.Repeat("\tn++\n", 58) + "\treturn n\n}\n"},
	{"another layout", "9", "func F()  int { return 1 }\n"},
}

// kept are texts of a package ops that break no rule.
var kept = []struct{ name, text string }{
	{"a layer above", "import \"foreman/table\"\n\nfunc F() int { return table.N }\n"},
	{"a mutex", "import \"sync\"\n\nfunc F() {\n\tvar m sync.Mutex\n\tm.Lock()\n}\n"},
	{"an error", "import \"errors\"\n\nvar errA = errors.New(\"a\")\n\nfunc F(err error) bool { return err == errA || errors.Is(err, errA) }\n"},
	{"a table", "var l = [...]string{\"a\", \"b\"}\n\nfunc F(n int) string {\n\tfor i := range l {\n\t\tif i == n {\n\t\t\treturn l[i]\n\t\t}\n\t}\n\treturn \"\"\n}\n"},
	{"a table of 150 words of 64 bits", "var l = [150]int{1}\n\nfunc F() int { return l[0] }\n"},
	{"rows", "var l = []struct{ n, m int }{{1, 2}, {3, 4}}\n\nfunc F() int { return l[len(l)-1].m }\n"},
	{"recover", "func F() (n int) {\n\tdefer func() {\n\t\tif recover() != nil {\n\t\t\tn = 1\n\t\t}\n\t}()\n\tpanic(1)\n}\n"},
	{"an assertion", "func F(x any) string {\n\tif e, ok := x.(error); ok {\n\t\treturn e.Error()\n\t}\n\treturn \"\"\n}\n"},
	{"an assertion to a type", "func F(x any) int {\n\tn, _ := x.(int)\n\treturn n\n}\n"},
	{"a map of numbers", "func F(s string) bool {\n\tm := map[string]int{}\n\tm[s] = 1\n\treturn m[\"a\"] == 1\n}\n"},
	{"a map of texts that is told", "func F(s string) map[string]string {\n\tm := map[string]string{}\n\tm[s] = s\n\treturn m\n}\n"},
	{"a value stored at the key that is ranged over", "func F(m map[int]int) {\n\tfor k := range m {\n\t\tm[k] = 1\n\t}\n}\n"},
	{"a function of 60 lines", "func F() (n int) {\n" + strings.Repeat("\tn++\n", 57) + "\treturn n\n}\n"},
}

// small is a program of which package ops has this text.
func small(t *testing.T, text string) map[string]map[string]string {
	t.Helper()
	texts := map[string]map[string]string{
		"foreman/ops":   {"ops.go": "package ops\n\n" + text},
		"foreman/table": {"table.go": "package table\n\nconst N = 1\n"},
		"foreman/flow":  {"flow.go": "package flow\n\nconst N = 1\n"},
	}
	if strings.Contains(text, "foreman/plain") {
		all := program(t)
		texts["foreman/api"], texts["foreman/plain"] = all["foreman/api"], all["foreman/plain"]
	}
	return texts
}

func TestBrokenRulesAreTold(t *testing.T) {
	for _, b := range broken {
		faults, err := faultsOf(small(t, b.text))
		if err != nil {
			t.Errorf("%s: %v", b.name, err)
			continue
		}
		told := false
		for _, f := range faults {
			told = told || strings.HasPrefix(f, b.rule+": ")
		}
		if !told {
			t.Errorf("%s: rule %s is broken, but what was told is %q", b.name, b.rule, faults)
		}
	}
}

func TestKeptRulesAreNotTold(t *testing.T) {
	for _, k := range kept {
		faults, err := faultsOf(small(t, k.text))
		if err != nil || len(faults) > 0 {
			t.Errorf("%s: %q, %v", k.name, faults, err)
		}
	}
}

// A file that is built on some machines alone is told by its name.
func TestNamesOfFilesAreLookedAt(t *testing.T) {
	faults, err := faultsOf(map[string]map[string]string{"foreman/ops": {"ops_linux.go": "package ops\n"}})
	if err != nil || len(faults) != 1 || !strings.HasPrefix(faults[0], "2: ") {
		t.Errorf("%q, %v", faults, err)
	}
}
