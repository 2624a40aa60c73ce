package kernel

import (
	"cmp"
	"slices"

	"punctual/api"
	"punctual/mach"
	"punctual/tasks"
)

// How many numbers a machine begins with.
const (
	variables = 8
	inputs    = 4
)

// Run is what happens up to until, if tasks come so.
func Run(l []api.Loaded, comes []api.Come, in []int, until int) ([]api.Event, api.Fault) {
	if f := checkRun(l, comes, in, until); f.Code != api.OK {
		return nil, f
	}
	r := newRun(l, comes, in)
	for now := range until {
		r.late(now)
		r.come(now)
		r.tick(now)
	}
	r.late(until)
	return r.log, api.Fault{}
}

// checkRun tells what is wrong with the tasks, then with how they come, then with the rest.
func checkRun(l []api.Loaded, comes []api.Come, in []int, until int) api.Fault {
	if f := Check(l); f.Code != api.OK {
		return f
	}
	if f := tasks.Legal(set(l), comes); f.Code != api.OK {
		return f
	}
	if len(in) != inputs || !within(until, 0, api.MaxUntil) {
		return api.Fault{Code: api.ErrRange}
	}
	return api.Fault{}
}

// job is a machine that does its task's image once.
type job struct {
	mach.Machine
	api.Task
	task   int             // the number of its task
	number int             // its number in comes
	due    int             // when it must be over
	ran    int             // the ticks that it has had
	holds  [lockCount]bool // which locks it holds
	active int             // its active priority
}

// run is a run of tasks.
type run struct {
	log      []api.Event
	loaded   []api.Loaded
	machines []mach.Machine // of each task one at the beginning: that of a job is a copy of it
	ceilings [lockCount]int
	comes    []api.Come
	came     int    // how many of comes have come
	there    []*job // those that aren't over, in the order in which they came
	running  *job   // who ran in the tick ahead; nil: nobody
}

// newRun is a run ahead of tick 0.
func newRun(l []api.Loaded, comes []api.Come, in []int) *run {
	r := &run{loaded: l, ceilings: ceilings(l), comes: comes}
	for _, t := range l {
		m, _ := mach.New(t.Image, make([]int, variables), in) // no fault: checkRun has looked at all of it
		r.machines = append(r.machines, *m)
	}
	return r
}

// tell writes down what happened to a job.
func (r *run) tell(at, kind int, j *job) {
	r.log = append(r.log, api.Event{At: at, Kind: kind, Task: j.task, N: j.number})
}

// late tells of those that are due now and aren't over.
func (r *run) late(now int) {
	for _, j := range r.there {
		if j.due == now {
			r.tell(now, api.EvLate, j)
		}
	}
}

// come lets those be there that come now.
func (r *run) come(now int) {
	for ; r.came < len(r.comes) && r.comes[r.came].At == now; r.came++ {
		j := r.newJob(r.came)
		r.there = append(r.there, j)
		r.tell(now, api.EvCome, j)
	}
}

// newJob is the job with that number, ahead of its first tick.
func (r *run) newJob(number int) *job {
	c := r.comes[number]
	t := r.loaded[c.Task].Task
	return &job{Machine: r.machines[c.Task], Task: t, task: c.Task, number: number, due: c.At + t.D, active: t.P}
}

// tick lets the one that goes first run in the tick that begins now.
func (r *run) tick(now int) {
	j := r.foremost(now)
	if j != nil {
		if j != r.running {
			r.tell(now, api.EvRun, j)
		}
		r.work(j, now+1)
	}
	r.running = j
}

// foremost is the one that goes first and has something to do; nil: nobody. Those that go ahead of it and have nothing to do are done now.
func (r *run) foremost(now int) *job {
	for len(r.there) > 0 {
		j := slices.MinFunc(r.there, ahead) // of several the first one: it came first
		if !j.Done() {
			return j
		}
		r.end(now, api.EvDone, j)
	}
	return nil
}

// ahead is below 0 if a goes ahead of b whichever came first.
func ahead(a, b *job) int {
	return cmp.Or(cmp.Compare(b.active, a.active), later(a)-later(b))
}

// later is 0 for a job that has begun, 1 for one that hasn't.
func later(j *job) int {
	if j.ran > 0 {
		return 0
	}
	return 1
}

// work lets a job have the tick that is over at a time.
func (r *run) work(j *job, at int) {
	j.ran++
	if x, last := j.Tick(); last {
		r.follow(j, x, at)
	}
	switch {
	case j.Done():
		r.end(at, api.EvDone, j)
	case j.ran == j.C:
		r.end(at, api.EvKill, j)
	}
}

// follow is what comes of an instruction that a job has done, beside what its machine knows of.
func (r *run) follow(j *job, x api.Ins, at int) {
	switch x.Op {
	case api.ILock, api.IUnlock:
		j.holds[x.A] = x.Op == api.ILock
		j.active = r.activeOf(j)
	case api.IOut:
		puts := j.Puts()
		put := puts[len(puts)-1]
		r.log = append(r.log, api.Event{At: at, Kind: api.EvPut, Task: j.task, M: put.Port, N: put.Value})
	}
}

// activeOf is the active priority of a job by what it holds.
func (r *run) activeOf(j *job) int {
	p := j.P
	for lock, held := range j.holds {
		if held {
			p = max(p, r.ceilings[lock])
		}
	}
	return p
}

// end tells how a job came to be over: it isn't there any more, and so holds nothing.
func (r *run) end(at, kind int, j *job) {
	r.tell(at, kind, j)
	place := slices.Index(r.there, j)
	r.there = slices.Delete(r.there, place, place+1)
}
