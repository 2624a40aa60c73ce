package edf_test

import (
	"slices"
	"testing"

	"punctual/api"
	"punctual/edf"
	"punctual/sched"
	"punctual/tasks"
)

// tardy are the jobs that are late if the one that is due first goes first; and when each one was done.
func tardy(t *testing.T, jobs []api.Job, until int) ([]int, []int) {
	t.Helper()
	p, f := sched.Play(jobs, api.Earliest, true, until)
	if f != (api.Fault{}) {
		t.Fatalf("Play: %v", f)
	}
	l, f := sched.Late(jobs, p)
	if f != (api.Fault{}) {
		t.Fatalf("Late: %v", f)
	}
	return l, p.Ends
}

// jobsOf are the jobs of tasks that come so.
func jobsOf(t *testing.T, set []api.Task, comes []api.Come, behind, takes []int) []api.Job {
	t.Helper()
	jobs, f := tasks.Jobs(set, comes, behind, takes)
	if f != (api.Fault{}) {
		t.Fatalf("Jobs: %v (%v %v %v %v)", f, set, comes, behind, takes)
	}
	return jobs
}

// comes lets tasks come as soon as they may, or now and then later, ahead of until.
func (m maker) comes(set []api.Task, until int) []api.Come {
	lazy := m.one(0, 0, 4, 20)
	next := make([]int, len(set))
	for i, t := range set {
		next[i] = m.one(0, m.Intn(t.T), m.Intn(1+lazy))
	}
	return m.from(set, next, lazy, until)
}

// together lets tasks come so that those that are as late as may be are there at one time.
func (m maker) together(set []api.Task, until int) []api.Come {
	latest := 0
	for _, t := range set {
		latest = max(latest, t.J)
	}
	next := make([]int, len(set))
	for i, t := range set {
		next[i] = latest - t.J
	}
	return m.from(set, next, 0, until)
}

// from lets tasks come first at next, then T behind it, or now and then up to lazy ticks later.
func (m maker) from(set []api.Task, next []int, lazy, until int) []api.Come {
	var comes []api.Come
	for now := range until {
		for _, i := range m.Perm(len(set)) {
			if now == next[i] {
				comes = append(comes, api.Come{Task: i, At: now})
				next[i] += set[i].T + m.Intn(1+lazy)
			}
		}
	}
	return comes
}

// behind is of each come how late it is: not at all, as late as may be, or between.
func (m maker) behind(set []api.Task, comes []api.Come) []int {
	kind := m.Intn(4)
	var l []int
	for _, c := range comes {
		j := set[c.Task].J
		switch kind {
		case 0:
			j = 0
		case 1:
			j = m.Intn(j + 1)
		}
		l = append(l, j)
	}
	return l
}

// gathered is of each come how late it is if all that may wait till the time at wait for it, and the others come at once.
func gathered(set []api.Task, comes []api.Come, at int) []int {
	var l []int
	for _, c := range comes {
		j := at - c.At
		if j < 0 || j > set[c.Task].J {
			j = 0
		}
		l = append(l, j)
	}
	return l
}

// takes is of each come how long it takes: mostly as long as may be.
func (m maker) takes(set []api.Task, comes []api.Come) []int {
	short := m.one(0, 0, 2)
	var l []int
	for _, c := range comes {
		n := set[c.Task].C
		if short > 0 && m.Intn(short) == 0 {
			n = m.within(1, n)
		}
		l = append(l, n)
	}
	return l
}

// all is of each come as long as may be.
func all(set []api.Task, comes []api.Come) []int {
	var l []int
	for _, c := range comes {
		l = append(l, set[c.Task].C)
	}
	return l
}

// greatest is the greatest J of a set.
func greatest(set []api.Task) int {
	most := 0
	for _, t := range set {
		most = max(most, t.J)
	}
	return most
}

// TestNobodyIsLate: where Fits says OK, however the tasks come.
func TestNobodyIsLate(t *testing.T) {
	m := newMaker(107)
	sets, just, withJ, above := 0, 0, 0, 0
	for range 6000 {
		set := m.jitter(m.set(m.within(1, 5), m.one(6, 20, 40), m.one(50, 70, 90)))
		if edf.Fits(set).Code != api.OK {
			continue
		}
		sets++
		look := func(comes []api.Come, behind, takes []int) {
			jobs := jobsOf(t, set, comes, behind, takes)
			l, ends := tardy(t, jobs, 400)
			if len(l) > 0 {
				t.Fatalf("late: %v of %v (%v)", l, jobs, set)
			}
			if _, _, f := edf.Judge(jobs); f != (api.Fault{}) {
				t.Fatalf("Judge: %v of %v (%v)", f, jobs, set)
			}
			for i, j := range jobs {
				if ends[i] == j.Due {
					just++
					if set[j.Task].J > 0 {
						withJ++
					}
				}
			}
		}
		for range 3 {
			comes := m.comes(set, 150)
			look(comes, m.behind(set, comes), m.takes(set, comes))
		}
		comes := m.together(set, 150)
		look(comes, gathered(set, comes, greatest(set)), all(set, comes))
		if slices.ContainsFunc(set, func(t api.Task) bool { return t.D > t.T }) {
			above++
		}
	}
	if sets < 1500 || just < 5000 || withJ < 1000 || above < 300 {
		t.Errorf("%d sets, %d with a D above its T; %d jobs are done just when they are due, %d of them with J", sets, above, just, withJ)
	}
}

// TestNobodyIsLateForLong: sets with great numbers, over all ticks that are played.
func TestNobodyIsLateForLong(t *testing.T) {
	m := newMaker(108)
	sets := 0
	for range 80 {
		set := m.jitter(m.set(m.within(2, api.MaxTasks), m.one(200, 2000, 10000), m.one(50, 70)))
		if edf.Fits(set).Code != api.OK {
			continue
		}
		comes := m.comes(set, api.MaxUntil)
		if len(comes) > api.MaxJobs {
			continue
		}
		sets++
		jobs := jobsOf(t, set, comes, m.behind(set, comes), m.takes(set, comes))
		if l, _ := tardy(t, jobs, api.MaxUntil); len(l) > 0 {
			t.Errorf("late: %v (%v)", l, set)
		}
	}
	if sets < 15 {
		t.Errorf("%d sets", sets)
	}
}

// wantLateByThen: all come at 0 and as soon as they may, and take C; is one late that is due at a time or ahead of it?
func wantLateByThen(t *testing.T, set []api.Task, at int) {
	t.Helper()
	comes, f := tasks.Comes(set, at)
	if f != (api.Fault{}) {
		t.Fatalf("Comes: %v", f)
	}
	jobs := jobsOf(t, set, comes, make([]int, len(comes)), all(set, comes))
	l, _ := tardy(t, jobs, at)
	if !slices.ContainsFunc(l, func(i int) bool { return jobs[i].Due <= at }) {
		t.Errorf("nobody is late by %d (%v)", at, set)
	}
}

// TestSomebodyIsLate: where all J and O are 0, and Fits says ErrNone with At above 0.
func TestSomebodyIsLate(t *testing.T) {
	m := newMaker(109)
	seen, further := 0, 0
	for range 30000 {
		set := m.set(m.within(1, 5), m.one(6, 20, 40, 400), m.one(50, 70, 90))
		f := edf.Fits(set)
		if f.Code != api.ErrNone || f.At == 0 || f.At > 3000 {
			continue // what lies further away may have more jobs than are played
		}
		seen++
		if f.At > set[0].T {
			further++
		}
		wantLateByThen(t, set, f.At)
	}
	if seen < 500 || further < 100 {
		t.Errorf("seen: %d, %d of them behind a T", seen, further)
	}
}

// TestAllAtNoughtShort: all small sets, J and O 0, that don't use more than there is: Fits says OK if and only if nobody is late though all come at 0 and as soon as they may.
func TestAllAtNoughtShort(t *testing.T) {
	fit, no := 0, 0
	look := func(set []api.Task) {
		if usesTooMuch(set) {
			return // they are late, but it may take long
		}
		comes, _ := tasks.Comes(set, 40)
		jobs := jobsOf(t, set, comes, make([]int, len(comes)), all(set, comes))
		l, _ := tardy(t, jobs, 60)
		f := edf.Fits(set)
		if (f.Code == api.OK) != (len(l) == 0) {
			t.Errorf("Fits: %v; late: %v (%v)", f, l, set)
		}
		switch {
		case f.Code == api.OK:
			fit++
		case f.At > 0:
			no++
			wantLateByThen(t, set, f.At)
		}
	}
	eachTask(6, 0, func(a api.Task) {
		eachTask(6, 0, func(b api.Task) { look(named(a, b)) })
	})
	if fit < 100 || no < 100 {
		t.Errorf("%d fit, %d don't", fit, no)
	}
}

// TestTooMuchWithJ: where Fits says ErrNone, and some are late, it isn't in vain either: such tasks, gathered, are late.
func TestTooMuchWithJ(t *testing.T) {
	m := newMaker(110)
	seen := 0
	for range 8000 {
		set := m.jitter(m.set(m.within(1, 4), m.one(6, 20), m.one(50, 70)))
		f := edf.Fits(set)
		if f.Code != api.ErrNone || usesTooMuch(set) || greatest(set) == 0 {
			continue
		}
		seen++
		at := greatest(set)
		comes := m.together(set, at+f.At+1)
		jobs := jobsOf(t, set, comes, gathered(set, comes, at), all(set, comes))
		if l, _ := tardy(t, jobs, at+f.At); !slices.ContainsFunc(l, func(i int) bool { return jobs[i].Due <= at+f.At }) {
			t.Errorf("nobody is late by %d (%v)", at+f.At, set)
		}
	}
	if seen < 500 {
		t.Errorf("seen: %d", seen)
	}
}

// wantJudged: does Judge say OK just where nobody is late by Earliest? If it doesn't: is one late that is due at b or ahead of it?
func wantJudged(t *testing.T, jobs []api.Job, until int) bool {
	t.Helper()
	_, b, f := edf.Judge(jobs)
	l, _ := tardy(t, jobs, until)
	if (f.Code == api.OK) != (len(l) == 0) {
		t.Errorf("Judge: %v; late: %v (%v)", f, l, jobs)
	}
	if f.Code == api.ErrNone && !slices.ContainsFunc(l, func(i int) bool { return jobs[i].Due <= b }) {
		t.Errorf("Judge: too much by %d; late: %v (%v)", b, l, jobs)
	}
	return f.Code == api.OK
}

func TestJudgeAndPlay(t *testing.T) {
	m := newMaker(111)
	seen := [2]int{}
	for range 10000 {
		jobs := m.jobs(m.within(1, 14), m.one(5, 20, 60), m.one(2, 5), m.one(3, 10, 25))
		if wantJudged(t, jobs, 150) {
			seen[0]++
		} else {
			seen[1]++
		}
	}
	for range 20 {
		jobs := m.jobs(m.within(1000, api.MaxJobs), 18000, m.one(4, 6), m.one(300, 900))
		jobs = slices.DeleteFunc(jobs, func(j api.Job) bool { return j.At+j.C > j.Due || j.Due > api.MaxUntil })
		if wantJudged(t, jobs, api.MaxUntil) {
			seen[0]++
		} else {
			seen[1]++
		}
	}
	if min(seen[0], seen[1]) < 2000 {
		t.Errorf("enough, too much: %v", seen)
	}
}

// someOrderDoes: may anyone run in each tick so that all jobs are done in time? Every way is tried, none of them twice.
func someOrderDoes(jobs []api.Job) bool {
	type state struct {
		now  int
		left [4]int
	}
	tried := map[state]int{}
	var try func(s state) bool
	try = func(s state) bool {
		tried[s]++
		if tried[s] > 1 {
			return false
		}
		open := false
		for i, j := range jobs {
			if s.left[i] > 0 {
				open = true
				if s.now >= j.Due {
					return false
				}
			}
		}
		if !open {
			return true
		}
		next := s
		next.now++
		for i, j := range jobs {
			if s.left[i] > 0 && j.At <= s.now {
				run := next
				run.left[i]--
				if try(run) {
					return true
				}
			}
		}
		return try(next)
	}
	var s state
	for i, j := range jobs {
		s.left[i] = j.C
	}
	return try(s)
}

// TestEveryOrder: Judge says OK just where some order does all in time, whoever runs in which tick.
func TestEveryOrder(t *testing.T) {
	seen := [2]int{}
	look := func(jobs []api.Job) {
		ok := someOrderDoes(jobs)
		if wantJudged(t, jobs, 30) != ok {
			t.Errorf("some order does: %v (%v)", ok, jobs)
		}
		if ok {
			seen[0]++
		} else {
			seen[1]++
		}
	}
	eachJobs(1, 5, 3, 7, look)
	eachJobs(2, 4, 2, 7, look)
	eachJobs(3, 2, 2, 6, look)
	m := newMaker(112)
	for range 5000 {
		look(m.jobs(m.within(2, 4), m.one(3, 6), m.one(2, 4), m.one(2, 5)))
	}
	if min(seen[0], seen[1]) < 2000 {
		t.Errorf("some order does, none does: %v", seen)
	}
}
