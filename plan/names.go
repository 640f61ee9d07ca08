package plan

import (
	"slices"

	"foreman/api"
	"foreman/table"
)

// wrong is what is wrong with a flow's parts, whatever order its jobs come in.
func wrong(f api.Flow) error {
	for _, in := range f.Ins {
		if !table.RightCols(in.Cols) {
			return at(api.ErrForm, in.At)
		}
	}
	made, err := makings(f)
	if err != nil {
		return err
	}
	return wrongReads(f, made)
}

// makings are the names of all tables that a flow has, if none is made twice.
func makings(f api.Flow) ([]string, error) {
	var made []string
	for _, in := range f.Ins {
		if slices.Contains(made, in.Name) {
			return nil, at(api.ErrTwice, in.At)
		}
		made = append(made, in.Name)
	}
	for _, j := range f.Jobs {
		for _, name := range j.Outs {
			if slices.Contains(made, name) {
				return nil, at(api.ErrTwice, j.At)
			}
			made = append(made, name)
		}
	}
	return made, nil
}

// wrongReads is what is wrong with what jobs read, and with what is told, if these tables are made.
func wrongReads(f api.Flow, made []string) error {
	for _, j := range f.Jobs {
		for _, name := range j.Ins {
			if !slices.Contains(made, name) {
				return at(api.ErrMissing, j.At)
			}
		}
	}
	for i, out := range f.Outs {
		if !slices.Contains(made, out.From) {
			return at(api.ErrMissing, out.At)
		}
		if slices.ContainsFunc(f.Outs[:i], func(ahead api.Publish) bool { return ahead.Name == out.Name }) {
			return at(api.ErrTwice, out.At)
		}
	}
	return nil
}
