package locks

import (
	"cmp"
	"slices"

	"punctual/api"
)

// entry is a job that is played.
type entry struct {
	api.Locked
	next   int  // the act that it does next
	ran    int  // how many ticks of that one it has worked
	begun  bool // has it ever gone first?
	waits  int  // the lock that it waits for, or nobody
	active int  // its active priority, told anew each time one is to go first
}

// run is a run of jobs that take locks; it has what it leaves.
type run struct {
	Held
	jobs     []entry
	protocol int
	ceilings []int
	holders  [lockCount]int // who holds each lock, or nobody
}

// newRun is a run ahead of tick 0.
func newRun(jobs []api.Locked, protocol int) *run {
	r := &run{jobs: make([]entry, len(jobs)), protocol: protocol, ceilings: ceilings(jobs)}
	for i, j := range jobs {
		r.jobs[i] = entry{Locked: j, waits: nobody}
	}
	for lock := range r.holders {
		r.holders[lock] = nobody
	}
	r.Ends = slices.Repeat([]int{nobody}, len(jobs))
	r.Waits = make([]int, len(jobs))
	return r
}

// tick plays the tick that begins now.
func (r *run) tick(now int) {
	r.Runs = append(r.Runs, r.begin(now))
	for i := range r.jobs {
		if r.jobs[i].waits != nobody {
			r.Waits[i]++
		}
	}
}

// begin does what takes no time, till one works: that one is the answer, or nobody.
func (r *run) begin(now int) int {
	for {
		who := r.foremost(now)
		if who == nobody || r.act(who, now) {
			return who
		}
	}
}

// foremost is the one that goes first.
func (r *run) foremost(now int) int {
	r.raise()
	first := nobody
	for i := range r.jobs {
		j := &r.jobs[i]
		if j.At > now || r.done(i) || j.waits != nobody {
			continue
		}
		if first == nobody || ahead(j, &r.jobs[first]) < 0 {
			first = i
		}
	}
	return first
}

// ahead is below 0 if a goes ahead of b wherever they stand in the list.
func ahead(a, b *entry) int {
	return cmp.Or(cmp.Compare(b.active, a.active), later(a.begun)-later(b.begun), cmp.Compare(a.At, b.At))
}

// later is 0 for those that have begun, 1 for those that haven't.
func later(begun bool) int {
	if begun {
		return 0
	}
	return 1
}

// raise tells the active priorities anew.
func (r *run) raise() {
	for i := range r.jobs {
		r.jobs[i].active = r.jobs[i].P
	}
	switch r.protocol {
	case api.Inherit:
		for i := range r.jobs {
			r.lend(i)
		}
	case api.Ceiling:
		for lock, who := range r.holders {
			if who != nobody {
				r.jobs[who].active = max(r.jobs[who].active, r.ceilings[lock])
			}
		}
	}
}

// lend gives the priority of one that waits to the one that it waits for, from that one to the one that this waits for, and so on: to the first one that has as much already, so that it ends where they wait in a ring, too.
func (r *run) lend(i int) {
	p := r.jobs[i].P
	for r.jobs[i].waits != nobody {
		i = r.holders[r.jobs[i].waits]
		if r.jobs[i].active >= p {
			return
		}
		r.jobs[i].active = p
	}
}

// act lets a job do what it does next; it tells whether that takes the tick.
func (r *run) act(who, now int) bool {
	j := &r.jobs[who]
	j.begun = true
	if len(j.Acts) == 0 {
		r.Ends[who] = now
		return false
	}
	a := j.Acts[j.next]
	switch a.Do {
	case api.Take:
		if r.holders[a.N] != nobody {
			j.waits = a.N
			return false
		}
		r.holders[a.N] = who
	case api.Give:
		r.free(a.N)
	case api.Work:
		j.ran++
		if j.ran == a.N {
			r.end(who, now+1)
		}
		return true
	}
	r.end(who, now)
	return false
}

// free gives a lock back: those that wait for it don't any more.
func (r *run) free(lock int) {
	r.holders[lock] = nobody
	for i := range r.jobs {
		if r.jobs[i].waits == lock {
			r.jobs[i].waits = nobody
		}
	}
}

// end ends the act that a job does; with its last one it is done.
func (r *run) end(who, now int) {
	j := &r.jobs[who]
	j.next++
	j.ran = 0
	if j.next == len(j.Acts) {
		r.Ends[who] = now
	}
}

// done tells whether a job is done.
func (r *run) done(who int) bool { return r.Ends[who] != nobody }

// stuck tells whether some of those that were there ahead of until aren't done, and all these wait.
func (r *run) stuck(until int) bool {
	some := false
	for i := range r.jobs {
		if r.jobs[i].At >= until || r.done(i) {
			continue
		}
		if r.jobs[i].waits == nobody {
			return false
		}
		some = true
	}
	return some
}
