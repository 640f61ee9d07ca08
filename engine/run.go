package engine

import (
	"slices"

	"foreman/api"
	"foreman/flow"
	"foreman/plan"
)

// noJob is the Job of a Report that was in no job.
const noJob = -1

// run is a flow on its way.
type run struct {
	engine   *Engine
	flow     api.Flow
	tables   map[string]link // all that are there by now
	done     []int           // jobs, in the order in which they were
	failures []int           // of each job
	known    int             // how many of those that are done
}

// Run runs a flow: picks say, one by one, which job is next (behind them: 0), of those that may come, and whether it fails then. What it tells is a version of its own. Errors: ErrState; flow.Parse's; plan.Check's; ErrMissing: an input is not there; ErrFalse: it has other columns; of a job: ops.Do's, the store's, ErrNone: it failed more often than it may.
func (e *Engine) Run(s string, picks []int) (_ Report) {
	if e.failed {
		return failure(api.ErrState, noJob)
	}
	r, err := e.begin(s)
	if err != nil {
		return failure(err, noJob)
	}
	for step := 0; len(r.done) < len(r.flow.Jobs); step++ {
		pick := 0
		if step < len(picks) {
			pick = picks[step]
		}
		if job, err := r.step(pick); err != nil {
			return failure(err, job)
		}
	}
	if err := e.publish(r.outputs()); err != nil {
		return failure(err, noJob)
	}
	return Report{Version: e.Version(), Done: len(r.done) - r.known, Known: r.known, Job: noJob}
}

// failure is the report of a run that ended with an error.
func failure(err error, job int) Report { return Report{Err: api.Tell(err), Job: job} }

// begin is a run of which nothing is done yet, if the flow may be run on the last version.
func (e *Engine) begin(s string) (*run, error) {
	f, err := flow.Parse(s)
	if err != nil {
		return nil, err
	}
	if _, err := plan.Check(f); err != nil {
		return nil, err
	}
	tables, err := e.inputs(f)
	if err != nil {
		return nil, err
	}
	return &run{engine: e, flow: f, tables: tables, failures: make([]int, len(f.Jobs))}, nil
}

// inputs are the tables of the last version that a flow reads.
func (e *Engine) inputs(f api.Flow) (map[string]link, error) {
	there, err := e.links(e.Version())
	if err != nil {
		return nil, err
	}
	tables := map[string]link{}
	for _, in := range f.Ins {
		to, is := there[in.Name]
		if !is {
			return nil, api.ErrMissing
		}
		t, err := e.read(to.key)
		if err != nil {
			return nil, err
		}
		if !slices.Equal(t.Cols, in.Cols) {
			return nil, api.ErrFalse
		}
		tables[in.Name] = to
	}
	return tables, nil
}

// step takes one pick: the job that it is about, and what is wrong then. As the flow was checked, one may always come while one is not done.
func (r *run) step(pick int) (int, error) {
	ready, drawn := r.ready(), uint64(pick)
	job := ready[drawn/2%uint64(len(ready))]
	if drawn%2 == 0 {
		return job, r.do(job)
	}
	r.failures[job]++
	if r.failures[job] > r.flow.Jobs[job].Retry {
		return job, api.ErrNone
	}
	return job, nil
}

// ready are the jobs that are not done and may come behind those that are.
func (r *run) ready() []int {
	var ready []int
	for job := range r.flow.Jobs {
		if !slices.Contains(r.done, job) && plan.Ready(r.flow, job, r.done) {
			ready = append(ready, job)
		}
	}
	return ready
}

// do does a job, unless it is known what it makes, and lays that beside the tables that are there.
func (r *run) do(job int) error {
	j := r.flow.Jobs[job]
	var ins []string
	for _, name := range j.Ins {
		ins = append(ins, r.tables[name].key)
	}
	asked := question(j, ins)
	m, known := r.engine.recall(asked, len(j.Outs))
	if known {
		r.known++
	} else {
		var err error
		if m, err = r.engine.do(j, ins); err != nil {
			return err
		}
	}
	// What is known is remembered again, too: it may have been read while the disk did nothing, and not be sure yet. What is there is not written twice.
	if err := r.engine.remember(asked, m); err != nil {
		return err
	}
	for i, name := range j.Outs {
		r.tables[name] = link{m.outs[i]}
	}
	r.done = append(r.done, job)
	return nil
}

// outputs are the names that a flow tells, and the keys of their tables.
func (r *run) outputs() map[string]string {
	told := map[string]string{}
	for _, out := range r.flow.Outs {
		told[out.Name] = r.tables[out.From].key
	}
	return told
}
