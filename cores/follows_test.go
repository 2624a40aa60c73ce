package cores_test

import (
	"slices"
	"testing"

	"punctual/api"
	"punctual/cores"
	"punctual/sched"
	"punctual/tasks"
)

// jobsOf are the jobs of tasks that come so, none of which is late in coming.
func jobsOf(t *testing.T, set []api.Task, comes []api.Come, takes []int) []api.Job {
	t.Helper()
	jobs, f := tasks.Jobs(set, comes, make([]int, len(comes)), takes)
	if f != (api.Fault{}) {
		t.Fatalf("Jobs: %v (%v %v %v)", f, set, comes, takes)
	}
	return jobs
}

// tardy are the jobs that are late by Earliest on so many cores, and when each one was done.
func tardy(t *testing.T, jobs []api.Job, n, until int) ([]int, []int) {
	t.Helper()
	_, ends, f := cores.Play(jobs, api.Earliest, n, until)
	if f != (api.Fault{}) {
		t.Fatalf("Play: %v", f)
	}
	l, f := sched.Late(jobs, api.Played{Runs: make([]int, until), Ends: ends})
	if f != (api.Fault{}) {
		t.Fatalf("Late: %v", f)
	}
	return l, ends
}

// just counts those that are done just when they are due, though not as soon as they could be.
func just(jobs []api.Job, ends []int) int {
	n := 0
	for i, j := range jobs {
		if ends[i] == j.Due && j.At+j.C < j.Due {
			n++
		}
	}
	return n
}

// comes lets tasks come as soon as they may, or now and then later, ahead of until.
func (m maker) comes(set []api.Task, until int) []api.Come {
	lazy := m.one(0, 0, 4, 20)
	next := make([]int, len(set))
	for i, t := range set {
		next[i] = m.one(0, 0, m.Intn(t.T), m.Intn(1+lazy))
	}
	var comes []api.Come
	for now := range until {
		for _, i := range m.Perm(len(set)) {
			if now == next[i] {
				comes = append(comes, api.Come{Task: i, At: now})
				next[i] += set[i].T + m.Intn(1+lazy)
			}
		}
	}
	return comes
}

// takes is of each come how long it takes: mostly as long as may be.
func (m maker) takes(set []api.Task, comes []api.Come) []int {
	short := m.one(0, 0, 2)
	var l []int
	for _, c := range comes {
		n := set[c.Task].C
		if short > 0 && m.Intn(short) == 0 {
			n = m.within(1, n)
		}
		l = append(l, n)
	}
	return l
}

// filled is a copy of a set whose tasks take more and more, till Dense would be false on so many cores; nil if it is already.
func (m maker) filled(t *testing.T, set []api.Task, n int) []api.Task {
	t.Helper()
	if is, f := cores.Dense(set, n); f != (api.Fault{}) || !is {
		return nil
	}
	for range 60 {
		next := changed(set, m.Intn(len(set)), func(t *api.Task) { t.C = min(t.D, t.C+m.one(1, 1+t.D/20)) })
		if is, _ := cores.Dense(next, n); is {
			set = next
		}
	}
	return set
}

// alike are as many tasks as may be on so many cores, each of which needs the same part of its time: if they come together, the last one is done just when it is due.
func (m maker) alike(n int) []api.Task {
	part := m.within(2, 1+(api.MaxTasks-1)/n)
	d := part * m.within(1, 3)
	var set []api.Task
	for range n*(part-1) + 1 {
		set = append(set, due(d/part, d+m.one(0, 0, 1, 5), d))
	}
	return named(set...)
}

// TestNobodyIsLate is P14.4.
func TestNobodyIsLate(t *testing.T) {
	m := newMaker(152)
	var sets, tight [api.MaxCores + 1]int
	for range 8000 {
		n := m.within(1, api.MaxCores)
		set := m.set(m.within(1, api.MaxTasks), m.one(4, 4, 8, 20), n*m.one(30, 50))
		switch m.Intn(3) {
		case 0:
			set = m.filled(t, set, n)
		case 1:
			set = m.alike(n)
		}
		if is, _ := cores.Dense(set, n); !is {
			continue
		}
		sets[n]++
		for range 4 {
			comes := m.comes(set, 60)
			jobs := jobsOf(t, set, comes, m.takes(set, comes))
			l, ends := tardy(t, jobs, n, 100)
			if len(l) > 0 {
				t.Fatalf("late on %d: %v of %v (%v)", n, l, jobs, set)
			}
			tight[n] += just(jobs, ends)
		}
	}
	for n := range sets {
		if n > 0 && (sets[n] < 500 || tight[n] < 500) {
			t.Errorf("on %d: %d sets, %d jobs that are done just when they are due", n, sets[n], tight[n])
		}
	}
}

// TestNobodyIsLateForLong: sets with great numbers, over all ticks that are played.
func TestNobodyIsLateForLong(t *testing.T) {
	m := newMaker(153)
	sets := 0
	for range 200 {
		n := m.within(1, api.MaxCores)
		set := m.filled(t, m.set(m.within(2, api.MaxTasks), m.one(200, 2000, 10000), n*40), n)
		if set == nil {
			continue
		}
		comes := m.comes(set, api.MaxUntil)
		if len(comes) > api.MaxJobs {
			continue
		}
		sets++
		jobs := jobsOf(t, set, comes, m.takes(set, comes))
		if l, _ := tardy(t, jobs, n, api.MaxUntil); len(l) > 0 {
			t.Errorf("late on %d: %v (%v)", n, l, set)
		}
	}
	if sets < 50 {
		t.Errorf("%d sets", sets)
	}
}

// patterns are all lists of times ahead of until that lie T ticks apart, or more.
func patterns(every, until int) [][]int {
	all := [][]int{nil}
	for at := range until {
		for _, l := range all {
			if len(l) == 0 || at-l[len(l)-1] >= every {
				all = append(all, append(slices.Clone(l), at))
			}
		}
	}
	return all
}

// eachComing calls with each way in which tasks may come ahead of until.
func eachComing(set []api.Task, until int, call func(comes []api.Come)) {
	at := make([][]int, len(set))
	var choose func(i int)
	choose = func(i int) {
		if i < len(set) {
			for _, l := range patterns(set[i].T, until) {
				at[i] = l
				choose(i + 1)
			}
			return
		}
		var comes []api.Come
		for now := range until {
			for task, l := range at {
				if slices.Contains(l, now) {
					comes = append(comes, api.Come{Task: task, At: now})
				}
			}
		}
		call(comes)
	}
	choose(0)
}

// all is of each come as long as may be.
func all(set []api.Task, comes []api.Come) []int {
	var l []int
	for _, c := range comes {
		l = append(l, set[c.Task].C)
	}
	return l
}

// TestEveryComing is P14.4 of all small sets of three tasks on two cores, however they come at first.
func TestEveryComing(t *testing.T) {
	var kinds []api.Task
	for period := 2; period <= 3; period++ {
		for d := 1; d <= period; d++ {
			for c := 1; c <= d; c++ {
				kinds = append(kinds, due(c, period, d))
			}
		}
	}
	sets, tight, late := 0, 0, 0
	for i := range kinds {
		for k := range i + 1 {
			for l := range k + 1 {
				set := named(kinds[i], kinds[k], kinds[l])
				is, _ := cores.Dense(set, 2)
				if is {
					sets++
				}
				eachComing(set, 4, func(comes []api.Come) {
					jobs := jobsOf(t, set, comes, all(set, comes))
					l, ends := tardy(t, jobs, 2, 12)
					switch {
					case is && len(l) > 0:
						t.Fatalf("late: %v of %v (%v)", l, jobs, set)
					case is:
						tight += just(jobs, ends)
					case len(l) > 0:
						late++
					}
				})
			}
		}
	}
	if sets < 4 || tight < 100 || late < 1000 {
		t.Errorf("%d sets, %d jobs done just when they are due; %d times one is late where Dense is false", sets, tight, late)
	}
}

// TestPremises: where Dense is false, where it has nothing to say, or by another policy, somebody may be late.
func TestPremises(t *testing.T) {
	together := func(set []api.Task) []api.Job {
		var comes []api.Come
		for i := range set {
			comes = append(comes, api.Come{Task: i})
		}
		return jobsOf(t, set, comes, all(set, comes))
	}
	wantLate := func(what string, set []api.Task, n int, want ...int) {
		t.Helper()
		if l, _ := tardy(t, together(set), n, 100); !slices.Equal(l, want) {
			t.Errorf("%s: late: %v, want %v", what, l, want)
		}
	}
	// Small ones that are due first keep all cores from one that needs all its time.
	wide := named(task(1, 5), task(1, 5), task(6, 6))
	wantDense(t, "a long one beside small ones", wide, 2, false)
	wantLate("a long one beside small ones", wide, 2, 2)
	wantSpread(t, "but it can be spread", wide, 2, 0, 0, 1)
	halves := named(task(1, 2), task(1, 2), task(1, 2))
	wantDense(t, "just what is allowed", halves, 2, true)
	wantLate("just what is allowed", halves, 2)
	more := named(task(1, 2), task(1, 2), task(3, 3))
	wantDense(t, "more", more, 2, false)
	wantLate("more", more, 2, 2)
	// By Fixed nothing is said.
	fixed := named(task(1, 2), task(2, 8), task(2, 8))
	fixed[1].P, fixed[2].P = 1, 1
	wantDense(t, "by Earliest", fixed, 2, true)
	wantLate("by Earliest", fixed, 2)
	if _, ends, f := cores.Play(together(fixed), api.Fixed, 2, 10); f != (api.Fault{}) || ends[0] != 3 {
		t.Errorf("by Fixed: %v %v", ends, f)
	}
}

// TestSpreadIsInTime: where tasks are spread so, each core by itself, nobody is late.
func TestSpreadIsInTime(t *testing.T) {
	m := newMaker(154)
	seen := 0
	for range 2000 {
		n := m.within(1, api.MaxCores)
		set := m.set(m.within(1, api.MaxTasks), m.one(6, 20), n*m.one(60, 90))
		way, f := cores.Spread(set, n)
		if f.Code != api.OK {
			continue
		}
		seen++
		comes := m.comes(set, 80)
		jobs := jobsOf(t, set, comes, m.takes(set, comes))
		for core := range n {
			var mine []api.Job
			for _, j := range jobs {
				if way[j.Task] == core {
					mine = append(mine, j)
				}
			}
			if l, _ := tardy(t, mine, 1, 120); len(l) > 0 {
				t.Errorf("late on core %d: %v of %v (%v)", core, l, mine, set)
			}
		}
	}
	if seen < 500 {
		t.Errorf("seen: %d", seen)
	}
}
