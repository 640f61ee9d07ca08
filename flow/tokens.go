package flow

import (
	"strings"

	"foreman/api"
)

// Kinds of tokens.
const (
	word = iota
	number
	quoted
	mark
	end // the text's end, behind all tokens
)

// marks stand in the order in which they are looked for: the longer ones ahead of those with which they begin.
var marks = [...]string{"<>", "<=", ">=", "<", ">", "=", "+", "-", "*", ",", ";", ":", "."}

// token is a piece of a text, as it stands there.
type token struct {
	kind int
	text string
	at   int
}

// wrong is what is thrown of a text that is wrong at a byte.
func wrong(e api.Errno, at int) *api.At {
	return &api.At{Err: e, Place: at}
}

// tokens cuts a text into its tokens; the last one is its end.
func tokens(s string) []token {
	blank := func(c byte) bool { return c == ' ' || c == '\n' }
	var l []token
	for at := run(s, blank); at < len(s); at += run(s[at:], blank) {
		t := firstToken(s, at)
		if len(l) == api.MaxTokens {
			panic(wrong(api.ErrLimit, at))
		}
		l = append(l, t)
		at += len(t.text)
	}
	return append(l, token{kind: end, at: len(s)})
}

// run is how many bytes at a text's beginning are such.
func run(s string, such func(c byte) bool) int {
	for i := range len(s) {
		if !such(s[i]) {
			return i
		}
	}
	return len(s)
}

// firstToken is the token that stands at a byte of a text.
func firstToken(s string, at int) token {
	letter := func(c byte) bool { return 'a' <= c && c <= 'z' }
	digit := func(c byte) bool { return '0' <= c && c <= '9' }
	rest := s[at:]
	switch {
	case letter(rest[0]):
		n := run(rest, func(c byte) bool { return letter(c) || digit(c) })
		return token{word, rest[:n], at}
	case digit(rest[0]):
		return token{number, rest[:run(rest, digit)], at}
	case rest[0] == '\'':
		n := strings.IndexByte(rest[1:], '\'')
		if n < 0 {
			panic(wrong(api.ErrForm, at))
		}
		return token{quoted, rest[:n+2], at}
	}
	for _, m := range marks {
		if strings.HasPrefix(rest, m) {
			return token{mark, m, at}
		}
	}
	panic(wrong(api.ErrForm, at))
}
