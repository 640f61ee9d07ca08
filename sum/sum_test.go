package sum_test

import (
	"crypto/sha256"
	"encoding/hex"
	"strings"
	"testing"

	"foreman/sum"
)

// mixed is a text of so many bytes, in which all bytes come.
func mixed(n int) string {
	l := make([]byte, n)
	for i := range l {
		l[i] = byte(i*167 + i/256*13 + 91)
	}
	return string(l)
}

// known are texts whose sums are told by FIPS 180-4's examples.
var known = []struct{ name, text, sum string }{
	{"nothing", "", "e3b0c44298fc1c149afbf4c8996fb92427ae41e4649b934ca495991b7852b855"},
	{"one block", "abc", "ba7816bf8f01cfea414140de5dae2223b00361a396177a9cb410ff61f20015ad"},
	{"two blocks", "abcdbcdecdefdefgefghfghighijhijkijkljklmklmnlmnomnopnopq", "248d6a61d20638b8e5c026930c3e6039a33ce45964ff2167f6ecedd419db06c1"},
	{"896 bits", "abcdefghbcdefghicdefghijdefghijkefghijklfghijklmghijklmnhijklmnoijklmnopjklmnopqklmnopqrlmnopqrsmnopqrstnopqrstu", "cf5b16a778af8380036ce59e7b0492370b249b11e8f07a51afac45037afee9d1"},
	{"a million", strings.Repeat("a", 1_000_000), "cdc76e5c9914fb9281a1c7e284d73e67f1809a48a497200e046d39ccc7112cd0"},
}

func Test21KnownSums(t *testing.T) {
	for _, k := range known {
		if got := sum.Hex(sum.Sum(k.text)); got != k.sum {
			t.Errorf("%s: %s, want %s", k.name, got, k.sum)
		}
	}
}

// The text's end falls on each place of a block, so the length stands in its last one, or in a block of its own.
func Test21SumOfEachLength(t *testing.T) {
	for n := range 400 {
		for _, s := range []string{mixed(n), strings.Repeat("\x00", n), strings.Repeat("\x80", n), strings.Repeat("\xff", n)} {
			want := sha256.Sum256([]byte(s))
			if got := sum.Sum(s); got != string(want[:]) {
				t.Fatalf("%d bytes: %x, want %x", n, got, want)
			}
		}
	}
}

func Test21SumOfEachByte(t *testing.T) {
	for b := range 256 {
		s := string([]byte{byte(b)})
		want := sha256.Sum256([]byte(s))
		if got := sum.Sum(s); got != string(want[:]) {
			t.Errorf("byte %d: %x, want %x", b, got, want)
		}
	}
}

func Test21SumIsOf32Bytes(t *testing.T) {
	for _, n := range []int{0, 1, 55, 56, 63, 64, 65, 119, 120, 128, 20_000} {
		if got := len(sum.Sum(mixed(n))); got != 32 {
			t.Errorf("of %d bytes: a sum of %d", n, got)
		}
	}
}

// Sums tell texts apart, of which one bit, or the length alone, is another.
func Test21SumsTellTextsApart(t *testing.T) {
	seen := map[string]string{}
	tell := func(s string) {
		if other, ok := seen[sum.Sum(s)]; ok {
			t.Errorf("%q and %q have the same sum", s, other)
		}
		seen[sum.Sum(s)] = s
	}
	text := mixed(70)
	tell(text)
	for i := range len(text) {
		for bit := range 8 {
			l := []byte(text)
			l[i] ^= 1 << bit
			tell(string(l))
		}
	}
	for n := range 200 {
		tell(strings.Repeat("\x00", n))
		tell("\x80" + strings.Repeat("\x00", n))
	}
}

// A text of 2^29 bytes has more bits than a number of 32 bits can tell.
func Test21SumOfALongText(t *testing.T) {
	if testing.Short() {
		t.Skip("half a gigabyte")
	}
	const want = "b9045a713caed5dff3d3b783e98d1ce5778d8bc331ee4119d707072312af06a7"
	if got := sum.Hex(sum.Sum(strings.Repeat("a", 1<<29))); got != want {
		t.Errorf("2^29 bytes: %s, want %s", got, want)
	}
}

func Test21Hex(t *testing.T) {
	for s, want := range map[string]string{
		"":                 "",
		"\x00":             "00",
		"\x0f":             "0f",
		"\xf0":             "f0",
		"\xff":             "ff",
		"\x00\xff":         "00ff",
		"abc":              "616263",
		"\n '~":            "0a20277e",
		"ä":                "c3a4",
		"\xde\xad\xbe\xef": "deadbeef",
	} {
		if got := sum.Hex(s); got != want {
			t.Errorf("%q: %q, want %q", s, got, want)
		}
	}
	for _, n := range []int{256, 1000, 20_000} {
		if got, want := sum.Hex(mixed(n)), hex.EncodeToString([]byte(mixed(n))); got != want {
			t.Errorf("%d bytes: another text than two small digits a byte", n)
		}
	}
	for b := range 256 {
		s := string([]byte{byte(b)})
		if got, want := sum.Hex(s), hex.EncodeToString([]byte(s)); got != want {
			t.Errorf("byte %d: %q, want %q", b, got, want)
		}
	}
}

// Nothing is kept from one call to the next one.
func TestP4SumsHangOnTheTextAlone(t *testing.T) {
	first := sum.Sum("abc")
	for n := range 130 {
		sum.Sum(mixed(n))
		sum.Hex(mixed(n))
	}
	if sum.Sum("abc") != first || sum.Hex(first) != known[1].sum {
		t.Error("the sum of abc is another one, behind others")
	}
}
