package serve

import (
	"slices"

	"punctual/api"
	"punctual/ready"
)

// itself stands where the server runs.
const itself = -2

// server is a server that is played.
type server struct {
	api.Server
	time  int                    // the ticks that it may run yet
	due   int                    // of a Constant one: till when it should have run them
	ahead func(job api.Job) bool // does it go ahead of a job?
}

// newServer is a server ahead of tick 0.
func newServer(s api.Server, p int) *server {
	n := &server{Server: s}
	n.ahead = func(job api.Job) bool { return p > job.P }
	if s.Kind == api.Constant {
		n.ahead = func(job api.Job) bool { return n.due < job.Due }
	}
	return n
}

// wake is what happens when something comes to a server that had nothing to do: time that is too much for what is left till it is due mayn't be kept.
func (s *server) wake(now int) {
	if s.Kind == api.Constant && s.time*s.P >= (s.due-now)*s.Q {
		s.time, s.due = s.Q, now+s.P
	}
}

// fill gives it its time at the beginning of a tick; some: there is something to do.
func (s *server) fill(now int, some bool) {
	if s.Kind == api.Constant || now%s.P != 0 {
		return
	}
	s.time = s.Q
	if s.Kind == api.Polling && !some {
		s.time = 0
	}
}

// spend takes the tick away that it has run; some: there is more to do.
func (s *server) spend(some bool) {
	s.time--
	switch {
	case s.Kind == api.Constant && s.time == 0:
		s.time, s.due = s.Q, s.due+s.P
	case s.Kind == api.Polling && !some:
		s.time = 0
	}
}

// run is a run of jobs beside a server; it has what it leaves.
type run struct {
	api.Played
	*server
	served []int // when each of soft was done
	jobs   []api.Job
	hard   *ready.Line
	soft   *ready.Line
}

// newRun is a run ahead of tick 0.
func newRun(jobs []api.Job, s api.Server, p int, soft []api.Job) *run {
	policy := api.Fixed
	if s.Kind == api.Constant {
		policy = api.Earliest
	}
	r := &run{server: newServer(s, p), jobs: jobs, hard: ready.New(jobs, ready.By(policy)), soft: ready.New(soft, ready.InTurn)}
	r.Ends = slices.Repeat([]int{ready.Nobody}, len(jobs))
	r.served = slices.Repeat([]int{ready.Nobody}, len(soft))
	return r
}

// tick plays the tick that begins now.
func (r *run) tick(now int) {
	r.begin(now)
	job := r.hard.First()
	switch {
	case r.goes(job):
		r.serve(now)
		job = itself
	case job != ready.Nobody && r.hard.Work(job):
		r.Ends[job] = now + 1
	}
	r.Runs = append(r.Runs, job)
}

// begin is what happens at the beginning of a tick.
func (r *run) begin(now int) {
	r.hard.Come(now)
	idle := !r.some()
	if r.soft.Come(now) && idle {
		r.wake(now)
	}
	r.fill(now, r.some())
}

// some tells whether something is there for the server.
func (r *run) some() bool { return r.soft.First() != ready.Nobody }

// goes tells whether the server runs, where that job goes first.
func (r *run) goes(job int) bool {
	can := r.some() && r.time > 0
	return can && (job == ready.Nobody || r.ahead(r.jobs[job]))
}

// serve lets the server run for a tick.
func (r *run) serve(now int) {
	job := r.soft.First()
	if r.soft.Work(job) {
		r.served[job] = now + 1
	}
	r.spend(r.some())
}
