package flow

import (
	"slices"
	"strconv"

	"foreman/api"
	"foreman/table"
)

// reader reads a flow token by token; what is wrong is thrown.
type reader struct {
	left []token // those that are not read yet; the end stays
}

// flow reads a whole text.
func (r *reader) flow() api.Flow {
	var f api.Flow
	for r.begins("in", len(f.Ins)) {
		f.Ins = append(f.Ins, r.input())
	}
	for r.begins("job", len(f.Jobs)) {
		f.Jobs = append(f.Jobs, r.job())
	}
	for r.begins("out", len(f.Outs)) {
		f.Outs = append(f.Outs, r.publish())
	}
	// One that is out of its place may be one too many as well, and that is told first.
	r.begins("in", len(f.Ins))
	r.begins("job", len(f.Jobs))
	if r.left[0].kind != end {
		panic(r.wrong(api.ErrForm))
	}
	return f
}

// begins says whether a part of a flow begins here; it may not behind MaxJobs others.
func (r *reader) begins(text string, others int) bool {
	if !r.is(text) {
		return false
	}
	if others == api.MaxJobs {
		panic(r.wrong(api.ErrLimit))
	}
	return true
}

// input reads an IN.
func (r *reader) input() api.Input {
	in := api.Input{At: r.must("in")}
	in.Name = r.name()
	r.must(":")
	in.Cols = append(in.Cols, r.column())
	for r.may(",") {
		in.Cols = append(in.Cols, r.column())
	}
	r.must(";")
	return in
}

// column reads a column of an IN.
func (r *reader) column() api.Column {
	c := api.Column{Name: r.name()}
	for kind := api.Int; kind < len(kinds); kind++ {
		if r.may(kinds[kind]) {
			c.Kind = kind
			return c
		}
	}
	panic(r.wrong(api.ErrForm))
}

// job reads a JOB.
func (r *reader) job() api.Job {
	j := api.Job{At: r.must("job")}
	j.Outs = r.names()
	if r.may("retry") {
		j.Retry = r.numberTo(api.MaxRetry)
	}
	r.must("=")
	r.body(&j)
	r.must(";")
	return j
}

// body reads what a job does.
func (r *reader) body(j *api.Job) {
	j.Code = r.code()
	j.Ins = []string{r.name()}
	switch j.Code {
	case api.Filter, api.Split:
		r.must("where")
		j.Left.Col = r.name()
		j.Op = r.oneOf("=", "<>", "<", "<=", ">", ">=")
		j.Right = r.arg()
	case api.Set:
		r.must(":")
		j.Cols = []string{r.name()}
		r.must("=")
		j.Left = r.arg()
		j.Op = r.oneOf("+", "-", "*")
		j.Right = r.arg()
	case api.Project, api.Sort:
		r.must("by")
		j.Cols = r.names()
	case api.Union:
		r.must(",")
		j.Ins = append(j.Ins, r.name())
	case api.Join:
		r.must(".")
		j.Cols = []string{r.name()}
		r.must(",")
		j.Ins = append(j.Ins, r.name())
		r.must(".")
		j.Cols = append(j.Cols, r.name())
	case api.Group:
		r.must("by")
		j.Cols = []string{r.name()}
		j.Op = r.oneOf("sum", "max")
		j.Cols = append(j.Cols, r.name())
	}
}

// code reads the word by which a body begins.
func (r *reader) code() int {
	for code := api.Filter; code < len(verbs); code++ {
		if r.may(verbs[code]) {
			return code
		}
	}
	panic(r.wrong(api.ErrForm))
}

// publish reads an OUT.
func (r *reader) publish() api.Publish {
	out := api.Publish{At: r.must("out")}
	out.Name = r.name()
	r.must("=")
	out.From = r.name()
	r.must(";")
	return out
}

// names reads one NAME or more.
func (r *reader) names() []string {
	l := []string{r.name()}
	for r.may(",") {
		l = append(l, r.name())
	}
	return l
}

// name reads a NAME.
func (r *reader) name() string {
	text := r.need(word).text
	if len(text) > api.MaxName {
		panic(r.wrong(api.ErrLimit))
	}
	r.take()
	return text
}

// arg reads an ARG.
func (r *reader) arg() api.Arg {
	switch {
	case r.left[0].kind == word:
		return api.Arg{Col: r.name()}
	case r.left[0].kind == quoted:
		return api.Arg{Value: r.textValue()}
	case r.may("-"):
		return api.Arg{Value: api.Value{Kind: api.Int, Num: -r.numberTo(api.MaxNum)}}
	}
	return api.Arg{Value: api.Value{Kind: api.Int, Num: r.numberTo(api.MaxNum)}}
}

// textValue reads a QUOTED.
func (r *reader) textValue() api.Value {
	text := r.need(quoted).text
	v := api.Value{Kind: api.Text, Word: text[1 : len(text)-1]}
	if !table.RightValue(v) {
		panic(r.wrong(api.ErrLimit))
	}
	r.take()
	return v
}

// numberTo reads a NUMBER that is at most so great.
func (r *reader) numberTo(most int) int {
	// Of a number that no int holds Atoi tells the greatest one, which is too great as well.
	n, _ := strconv.Atoi(r.need(number).text)
	if n > most {
		panic(r.wrong(api.ErrLimit))
	}
	r.take()
	return n
}

// need is the next token, which is of this kind.
func (r *reader) need(kind int) token {
	if r.left[0].kind != kind {
		panic(r.wrong(api.ErrForm))
	}
	return r.left[0]
}

// oneOf reads a token that reads as one of these.
func (r *reader) oneOf(texts ...string) string {
	text := r.left[0].text
	if !slices.Contains(texts, text) {
		panic(r.wrong(api.ErrForm))
	}
	r.take()
	return text
}

// must reads a token that reads so, and tells where it begins.
func (r *reader) must(text string) int {
	at := r.left[0].at
	if !r.may(text) {
		panic(r.wrong(api.ErrForm))
	}
	return at
}

// may reads a token that reads so, if there is one.
func (r *reader) may(text string) bool {
	if !r.is(text) {
		return false
	}
	r.take()
	return true
}

// is says whether the next token reads so. (A QUOTED begins with its ', the end is empty: no word and no mark reads as one of these.)
func (r *reader) is(text string) bool {
	return r.left[0].text == text
}

// take leaves the next token behind.
func (r *reader) take() {
	r.left = r.left[1:]
}

// wrong is what is thrown if the next token is wrong.
func (r *reader) wrong(e api.Errno) *api.At {
	return wrong(e, r.left[0].at)
}
