// Package table: tables, as text.
package table

import (
	"strconv"
	"strings"

	"foreman/api"
)

// kindWords has the word of each kind at the kind's number.
var kindWords = [api.Text + 1]string{api.Int: "int", api.Text: "text"}

// Name says whether something may be called so: small letters and digits, 1 to MaxName, a letter first.
func Name(s string) (_ bool) {
	if s == "" || len(s) > api.MaxName {
		return false
	}
	letter := func(c byte) bool { return 'a' <= c && c <= 'z' }
	return letter(s[0]) && every(s, func(c byte) bool { return letter(c) || '0' <= c && c <= '9' })
}

// RightValue says whether a value may be: an Int from -MaxNum to MaxNum, or a Text of at most MaxWord bytes from blank to ~, but ' (and nothing else in it).
func RightValue(v api.Value) (_ bool) {
	switch v.Kind {
	case api.Int:
		return -api.MaxNum <= v.Num && v.Num <= api.MaxNum && v.Word == ""
	case api.Text:
		return rightWord(v.Word) && v.Num == 0
	}
	return false
}

// Less says whether a value is ahead of another one: Ints ahead of Texts, Ints by number, Texts byte by byte.
func Less(a, b api.Value) (_ bool) {
	if a.Kind != b.Kind {
		return a.Kind < b.Kind
	}
	if a.Kind == api.Int {
		return a.Num < b.Num
	}
	return a.Word < b.Word
}

// RightCols says whether columns may be: 1 to MaxCols, Names, none twice, of kinds that there are.
func RightCols(l []api.Column) (_ bool) {
	if len(l) == 0 || len(l) > api.MaxCols {
		return false
	}
	for i, c := range l {
		if !Name(c.Name) || !rightKind(c.Kind) || called(l[:i], c.Name) {
			return false
		}
	}
	return true
}

// Right says whether a table may be: columns that may be, at most MaxRows rows, a value of its kind for each column.
func Right(t api.Table) (_ bool) {
	if !RightCols(t.Cols) || len(t.Rows) > api.MaxRows {
		return false
	}
	for _, row := range t.Rows {
		if !rightRow(row, t.Cols) {
			return false
		}
	}
	return true
}

// Value writes a value: digits, or a text in '.
func Value(v api.Value) (_ string) {
	if v.Kind == api.Int {
		return strconv.Itoa(v.Num)
	}
	return "'" + v.Word + "'"
}

// Print writes a table: its columns in a line, each NAME:KIND, then a line a row, with one blank between. ErrArg: it may not be.
func Print(t api.Table) (_ string, _ error) {
	if !Right(t) {
		return "", api.ErrArg
	}
	var head []string
	for _, c := range t.Cols {
		head = append(head, c.Name+":"+kindWords[c.Kind])
	}
	var text strings.Builder
	text.WriteString(line(head))
	for _, row := range t.Rows {
		var values []string
		for _, v := range row {
			values = append(values, Value(v))
		}
		text.WriteString(line(values))
	}
	return text.String(), nil
}

// ParseValue reads a value, as Value writes it. ErrForm.
func ParseValue(s string) (_ api.Value, _ error) {
	var v api.Value
	if strings.HasPrefix(s, "'") {
		v = api.Value{Kind: api.Text, Word: strings.TrimSuffix(s[1:], "'")}
	} else if n, err := strconv.Atoi(s); err == nil {
		v = api.Value{Kind: api.Int, Num: n}
	}
	// A + or a nought ahead, -0, and a text without its last ' are read above, but no value is written so.
	if !RightValue(v) || Value(v) != s {
		return api.Value{}, api.ErrForm
	}
	return v, nil
}

// Parse reads a table, as Print writes it. ErrForm: an At at the first line (from 0 on) that is none such; ErrLimit: at a row behind MaxRows.
func Parse(s string) (_ api.Table, _ error) {
	head, rest, ended := strings.Cut(s, "\n")
	cols, ok := parseCols(head)
	if !ok {
		return wrong(api.ErrForm, 0)
	}
	t := api.Table{Cols: cols}
	for ended && rest != "" {
		var text string
		text, rest, ended = strings.Cut(rest, "\n")
		row, ok := parseRow(text, cols)
		if !ok {
			return wrong(api.ErrForm, 1+len(t.Rows))
		}
		if len(t.Rows) == api.MaxRows {
			return wrong(api.ErrLimit, 1+len(t.Rows))
		}
		t.Rows = append(t.Rows, row)
	}
	if !ended {
		// No line is wrong: the place is the one behind the last line.
		return wrong(api.ErrForm, 1+len(t.Rows))
	}
	return t, nil
}

// every says whether all bytes of a text are such.
func every(s string, such func(c byte) bool) bool {
	for i := range len(s) {
		if !such(s[i]) {
			return false
		}
	}
	return true
}

// rightWord says whether a Text may have this word.
func rightWord(s string) bool {
	return len(s) <= api.MaxWord && every(s, func(c byte) bool { return ' ' <= c && c <= '~' && c != '\'' })
}

// rightKind says whether there is such a kind.
func rightKind(kind int) bool {
	return kind == api.Int || kind == api.Text
}

// called says whether one of the columns has this name.
func called(l []api.Column, name string) bool {
	for _, c := range l {
		if c.Name == name {
			return true
		}
	}
	return false
}

// rightRow says whether a row has a value that may be, of its kind, for each column.
func rightRow(row []api.Value, cols []api.Column) bool {
	if len(row) != len(cols) {
		return false
	}
	for i, v := range row {
		if v.Kind != cols[i].Kind || !RightValue(v) {
			return false
		}
	}
	return true
}

// line is a line of parts.
func line(parts []string) string {
	return strings.Join(parts, " ") + "\n"
}

// wrong is what Parse answers of a text that is wrong at a line.
func wrong(e api.Errno, place int) (api.Table, error) {
	return api.Table{}, &api.At{Err: e, Place: place}
}

// kindOf is the kind of a word, 0 if it is none's.
func kindOf(word string) int {
	for kind := range kindWords {
		if kindWords[kind] == word {
			return kind
		}
	}
	return 0
}

// parseCols reads a table's first line.
func parseCols(s string) ([]api.Column, bool) {
	var cols []api.Column
	// One part above MaxCols tells already that there are too many.
	for _, part := range strings.SplitN(s, " ", api.MaxCols+1) {
		name, word, _ := strings.Cut(part, ":")
		cols = append(cols, api.Column{Name: name, Kind: kindOf(word)})
	}
	if !RightCols(cols) {
		return nil, false
	}
	return cols, true
}

// parseRow reads a line behind the first one.
func parseRow(s string, cols []api.Column) ([]api.Value, bool) {
	var row []api.Value
	rest, more := s, false
	for _, c := range cols {
		var text string
		text, rest, more = cutValue(rest)
		// Behind the last value the text is empty, which is no value either.
		v, err := ParseValue(text)
		if err != nil || v.Kind != c.Kind {
			return nil, false
		}
		row = append(row, v)
	}
	if more {
		return nil, false
	}
	return row, true
}

// cutValue cuts a row's text at its first blank that does not lie between two '; more says whether there is one.
func cutValue(s string) (value, rest string, more bool) {
	quoted := false
	for i := range len(s) {
		if s[i] == '\'' {
			quoted = !quoted
		}
		if s[i] == ' ' && !quoted {
			return s[:i], s[i+1:], true
		}
	}
	return s, "", false
}
