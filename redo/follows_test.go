package redo_test

import (
	"slices"
	"testing"

	"punctual/api"
	"punctual/fixed"
	"punctual/redo"
	"punctual/tasks"
)

// comes lets tasks come as soon as they may, or now and then later, ahead of until.
func (m maker) comes(set []api.Task, until int) []api.Come {
	lazy := m.one(0, 0, 4, 20)
	next := make([]int, len(set))
	for i, t := range set {
		next[i] = m.one(0, m.Intn(t.T), m.Intn(1+lazy))
	}
	var comes []api.Come
	for now := range until {
		for _, i := range m.Perm(len(set)) {
			if now == next[i] {
				comes = append(comes, api.Come{Task: i, At: now})
				next[i] += set[i].T + m.Intn(1+lazy)
			}
		}
	}
	return comes
}

// behind is of each come how late it is: not at all, as late as may be, the first ones alone, or between.
func (m maker) behind(set []api.Task, comes []api.Come) []int {
	kind := m.Intn(4)
	var l []int
	for i, c := range comes {
		j := set[c.Task].J
		if kind == 0 || kind == 2 && i >= len(set) {
			j = 0
		} else if kind == 1 {
			j = m.Intn(j + 1)
		}
		l = append(l, j)
	}
	return l
}

// takes is of each come how long it takes: mostly as long as may be.
func (m maker) takes(set []api.Task, comes []api.Come) []int {
	short := m.one(0, 0, 2)
	var l []int
	for _, c := range comes {
		n := set[c.Task].C
		if short > 0 && m.Intn(short) == 0 {
			n = m.within(1, n)
		}
		l = append(l, n)
	}
	return l
}

// scene are tasks, and how they come.
type scene struct {
	set           []api.Task
	comes         []api.Come
	behind, takes []int
}

// scene is how tasks of a set come ahead of until.
func (m maker) scene(set []api.Task, until int) scene {
	comes := m.comes(set, until)
	return scene{set, comes, m.behind(set, comes), m.takes(set, comes)}
}

// ends is when each job is done.
func (s scene) ends(t *testing.T, step int, faults []int, until int) []int {
	t.Helper()
	l, f := tasks.Jobs(s.set, s.comes, s.behind, s.takes)
	if f != (api.Fault{}) {
		t.Fatalf("Jobs: %v (%v)", f, s)
	}
	p, f := redo.Play(l, step, faults, until)
	if f != (api.Fault{}) {
		t.Fatalf("Play: %v (%v %d %v)", f, s, step, faults)
	}
	return p.Ends
}

// most is of each task what Response says, or 0.
func most(set []api.Task, gap, step int) []int {
	l := make([]int, len(set))
	for i := range set {
		l[i], _ = redo.Response(set, i, gap, step)
	}
	return l
}

// kept counts jobs of which P17.3 says something.
type kept struct {
	jobs        int
	just        int // done just when they had to be
	twice       int // of those: later than they could be with one fault
	late        int // of those: with J
	steps, same int // of those: with steps; of tasks with a P that others have, too
	alone       int // of tasks in whose sets there is one of which Response says none
}

// want: is each job of a task of which Response says OK done so soon behind its coming?
func (k *kept) want(t *testing.T, s scene, gap, step int, faults []int, until int) {
	t.Helper()
	soon, ends := most(s.set, gap, step), s.ends(t, step, faults, until)
	for i, c := range s.comes {
		own := s.set[c.Task]
		if soon[c.Task] == 0 || c.At+soon[c.Task] > until {
			continue
		}
		if ends[i] < 0 || ends[i] > c.At+soon[c.Task] {
			t.Fatalf("%d is done at %d, must be %d behind %d (%v, faults %v, %d apart, %d)", i, ends[i], soon[c.Task], c.At, s, faults, gap, step)
		}
		k.jobs++
		if slices.Contains(soon, 0) {
			k.alone++
		}
		if ends[i] < c.At+soon[c.Task] {
			continue
		}
		k.just++
		if once, _ := redo.Response(s.set, c.Task, far, step); once < soon[c.Task] {
			k.twice++
		}
		k.late += min(1, own.J)
		k.steps += min(1, step)
		if slices.ContainsFunc(s.set, func(t api.Task) bool { return t.P == own.P && t != own }) {
			k.same++
		}
	}
}

// TestDoneAnewInTime is P17.3.
func TestDoneAnewInTime(t *testing.T) {
	m := newMaker(178)
	var k kept
	for range 6000 {
		s := m.scene(m.set(m.within(1, 5), m.one(10, 20, 50), m.one(15, 25, 40)), 120)
		gap, step := m.one(3, 8, 15, 30, m.within(1, 60)), m.one(0, 0, 1, 2, m.Intn(6))
		for range 4 {
			k.want(t, s, gap, step, m.faults(gap, 250), 250)
		}
	}
	if k.jobs < 100000 || k.just < 5000 || k.twice < 200 || k.late < 500 || k.steps < 3000 || k.same < 300 || k.alone < 50000 {
		t.Errorf("%+v", k)
	}
}

// worst adds to faults, gap by gap, the one that makes a job done latest.
func (s scene) worst(t *testing.T, job, gap, step, until int) []int {
	t.Helper()
	var faults []int
	for range 3 {
		from := s.comes[job].At
		if len(faults) > 0 {
			from = faults[len(faults)-1] + gap
		}
		best, latest := -1, s.ends(t, step, faults, until)[job]
		for tick := from; tick < min(until, from+25); tick++ {
			if end := s.ends(t, step, append(slices.Clip(faults), tick), until)[job]; end > latest {
				best, latest = tick, end
			}
		}
		if best < 0 {
			break
		}
		faults = append(faults, best)
	}
	return faults
}

// TestWorstFaults: all come together, and faults come where they do most harm.
func TestWorstFaults(t *testing.T) {
	m := newMaker(179)
	var k kept
	for range 3000 {
		set := m.set(m.within(1, 4), m.one(20, 40), m.one(15, 25))
		s := scene{set: set}
		for i, one := range set {
			s.comes = append(s.comes, api.Come{Task: i})
			s.behind, s.takes = append(s.behind, one.J), append(s.takes, one.C)
		}
		gap, step := m.one(3, 5, 8, 12, 20), m.one(0, 0, 1, 2, 3)
		k.want(t, s, gap, step, s.worst(t, m.Intn(len(set)), gap, step, 150), 150)
	}
	if k.jobs < 3000 || k.just < 1000 || k.twice < 30 || k.late < 200 || k.steps < 500 {
		t.Errorf("%+v", k)
	}
}

// TestOneFaultIsReached: where no J is there, no two P are the same and all come at 0, one fault can make the first job of a task last just as long as Response says; and if there is none, that job is late.
func TestOneFaultIsReached(t *testing.T) {
	m := newMaker(180)
	done, not, others := 0, 0, 0
	for range 1500 {
		set := m.order(m.set(m.within(1, 5), m.one(8, 20, 40), m.one(20, 40)))
		for i := range set {
			set[i].J = 0
		}
		comes, _ := tasks.Comes(set, 100)
		s := scene{set: set, comes: comes, behind: make([]int, len(comes))}
		for _, c := range comes {
			s.takes = append(s.takes, set[c.Task].C)
		}
		i, step := m.Intn(len(set)), m.one(0, 0, 1, 2, 3)
		last := 0
		for tick := range set[i].D {
			end := s.ends(t, step, ints(tick), 100)[i]
			if end < 0 {
				end = 101
			}
			last = max(last, end)
		}
		if r, f := redo.Response(set, i, far, step); f.Code == api.OK {
			done++
			if last != r {
				t.Errorf("%d takes %d at worst, not %d (%v %d)", i, last, r, set, step)
			}
			if unhurt, _ := fixed.Response(set, i, 0); r-unhurt > set[i].C {
				others++
			}
		} else {
			not++
			if last <= set[i].D {
				t.Errorf("%d takes %d at worst, but has no response (%v %d)", i, last, set, step)
			}
		}
	}
	if min(done, not) < 300 || others < 50 {
		t.Errorf("%d are done just so, %d of them for what another one lost; %d are late", done, others, not)
	}
}

// eachFaults calls with all faults in so many ticks that lie gap ticks apart, or more.
func eachFaults(gap, ticks int, call func(faults []int)) {
	var lay func(faults []int, from int)
	lay = func(faults []int, from int) {
		call(slices.Clone(faults))
		for tick := from; tick < ticks; tick++ {
			lay(append(slices.Clip(faults), tick), tick+gap)
		}
	}
	lay(nil, 0)
}

// TestAllFaults: small sets, each with all the faults that there may be.
func TestAllFaults(t *testing.T) {
	m := newMaker(181)
	var k kept
	for range 150 {
		s := m.scene(m.set(m.within(1, 3), m.one(6, 10), 30), 9)
		gap, step := m.within(2, 6), m.one(0, 1, 2)
		eachFaults(gap, 16, func(faults []int) { k.want(t, s, gap, step, faults, 40) })
	}
	if k.jobs < 50000 || k.just < 10000 || k.twice < 500 || k.late < 1000 || k.steps < 5000 || k.same < 300 {
		t.Errorf("%+v", k)
	}
}

// TestOneTaskWithAllFaults: one task alone, with all the faults that there may be: none makes it last longer than Response says, and with a step of a tick some fault makes it last just so long.
func TestOneTaskWithAllFaults(t *testing.T) {
	just := 0
	for c := 1; c <= 4; c++ {
		for gap := 1; gap <= 8; gap++ {
			for step := range 5 {
				set := named(task(c, 20, 1))
				r, f := redo.Response(set, 0, gap, step)
				if f.Code != api.OK {
					continue
				}
				last := 0
				eachFaults(gap, 12, func(faults []int) {
					p, _ := redo.Play(jobs(by(1, 0, c)), step, faults, 40)
					last = max(last, p.Ends[0])
				})
				if last > r || step == 1 && last < r {
					t.Errorf("%d ticks, faults %d apart, %d: %d, want %d", c, gap, step, last, r)
				}
				if last == r {
					just++
				}
			}
		}
	}
	if just < 30 {
		t.Errorf("%d", just)
	}
}

// TestDoneAnewForLong: great numbers, over all ticks that are played.
func TestDoneAnewForLong(t *testing.T) {
	m := newMaker(182)
	var k kept
	for range 120 {
		s := m.scene(m.set(m.within(2, api.MaxTasks), m.one(300, 2000, 10000), 25), api.MaxUntil)
		gap, step := m.one(50, 300, 1000), m.one(0, 1, 5, 50)
		faults := m.faults(gap, api.MaxUntil)
		if len(s.comes) > api.MaxJobs {
			continue
		}
		k.want(t, s, gap, step, faults, api.MaxUntil)
	}
	if k.jobs < 10000 || k.just < 30 {
		t.Errorf("%+v", k)
	}
}

// TestPremises: where faults lie closer together, or tasks come oftener, a job may be done later than Response says.
func TestPremises(t *testing.T) {
	set := named(task(1, 6, 2), task(2, 10, 1))
	wantResponse(t, "in time", set, 1, 5, 0, 5)
	l := jobs(by(2, 0, 1), by(1, 0, 2))
	wantPlay(t, "five apart", l, 0, ints(2, 7), runs(0, 1, 1, 4, -1, 3), ints(1, 5))
	wantPlay(t, "two apart", l, 0, ints(2, 4), runs(0, 1, 1, 6, -1, 1), ints(1, 7))
	wantPlay(t, "oftener", jobs(by(2, 0, 1), by(1, 0, 2), by(2, 1, 1)), 0, ints(3), ints(0, 2, 1, 1, 1, 1, -1), ints(1, 6, 2))
	wantNoResponse(t, "two apart", set, 1, 2, 0, fault(api.ErrNone, 1))
}
