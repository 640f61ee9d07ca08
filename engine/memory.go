package engine

import (
	"slices"
	"strings"

	"foreman/api"
	"foreman/flow"
	"foreman/ops"
	"foreman/store"
	"foreman/sum"
)

// A job that was done is remembered by a record of its own: a mark, the sum of what was asked, the keys of the tables that it made. A table's text never begins as the mark does (a column stands there), nor does a version's (a sum stands there, or another text).
const (
	mark    = "a job was done, and it made:"
	keySize = 32
)

// memo is what a job made: keys of tables.
type memo struct{ outs []string }

// memories are all that a store remembers.
func memories(x *store.Store) map[string]memo {
	all := map[string]memo{}
	for _, key := range x.Keys() {
		s, err := x.Get(key)
		if err != nil {
			continue
		}
		if asked, m, is := parseMemo(s); is {
			all[asked] = m
		}
	}
	return all
}

// memoText is the record of what was made by a job that was asked this.
func memoText(asked string, m memo) string { return mark + asked + strings.Join(m.outs, "") }

// parseMemo is what was asked, and what was made, by a record; false: it is none such.
func parseMemo(s string) (string, memo, bool) {
	keys, marked := strings.CutPrefix(s, mark)
	if !marked || len(keys) < keySize {
		return "", memo{}, false
	}
	asked, m := keys[:keySize], memo{}
	for key := range slices.Chunk([]byte(keys[keySize:]), keySize) {
		m.outs = append(m.outs, string(key))
	}
	return asked, m, true
}

// question is the sum of what a job does, whatever its tables are called, and of the tables' keys.
func question(j api.Job, ins []string) string {
	j.Ins = slices.Repeat([]string{"t"}, len(j.Ins))
	return sum.Sum(flow.Text(j) + "\n" + strings.Join(ins, ""))
}

// recall is what was made by a job that was asked this, if one was, and all of it is there.
func (e *Engine) recall(asked string, outs int) (memo, bool) {
	m, known := e.memory[asked]
	if !known || len(m.outs) != outs {
		return memo{}, false
	}
	for _, key := range m.outs {
		if _, err := e.store.Get(key); err != nil {
			return memo{}, false
		}
	}
	return m, true
}

// do does a job to tables, by their keys.
func (e *Engine) do(j api.Job, keys []string) (memo, error) {
	var ins []api.Table
	for _, key := range keys {
		t, err := e.read(key)
		if err != nil {
			return memo{}, err
		}
		ins = append(ins, t)
	}
	outs, err := ops.Do(j, ins)
	if err != nil {
		return memo{}, err
	}
	var m memo
	for _, t := range outs {
		key, err := e.write(t)
		if err != nil {
			return memo{}, err
		}
		m.outs = append(m.outs, key)
	}
	return m, nil
}

// remember makes it known, for ever, what a job made. Its tables are sure by then: whatever is known is there.
func (e *Engine) remember(asked string, m memo) error {
	if _, err := e.store.Put(memoText(asked, m)); err != nil {
		return e.noted(err)
	}
	e.memory[asked] = m
	return nil
}
