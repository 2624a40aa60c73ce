package kernel_test

import (
	"slices"
	"testing"

	"punctual/api"
	"punctual/fixed"
	"punctual/kernel"
	"punctual/mach"
	"punctual/meaning"
	"punctual/wcet"
)

// ended is how a job went, by what the log tells.
type ended struct {
	done int // -1: never
	puts []api.Put
}

// told is how each job went. What goes out belongs to the one that runs: the last one of which EvRun was told.
func told(t *testing.T, comes []api.Come, log []api.Event) []ended {
	t.Helper()
	all := make([]ended, len(comes))
	for i := range all {
		all[i].done = -1
	}
	runs := -1
	for _, e := range log {
		switch e.Kind {
		case api.EvRun:
			runs = e.N
		case api.EvDone:
			all[e.N].done = e.At
		case api.EvPut:
			if comes[runs].Task != e.Task {
				t.Errorf("%v of another task than the job that runs, %d", e, runs)
			}
			all[runs].puts = append(all[runs].puts, api.Put{Port: e.M, Value: e.N})
		case api.EvLate, api.EvKill:
			t.Errorf("%v, though they were admitted", e)
		}
	}
	return all
}

// promise counts of how much P16.5 was seen to hold.
type promise struct {
	sets   int // sets that were admitted
	jobs   int // jobs that until allowed to be done
	just   int // of these: done just when Admit says
	longer int // done later than if there were no blocks
	puts   int // numbers that went out
	cut    int // jobs that weren't done, since until was too soon
}

// worst is of each task how long its jobs took that were done, at most.
type worst []int

// wantPromise: does P16.5 hold, if tasks come so? False: they weren't admitted.
func (s *promise) wantPromise(t *testing.T, x made, comes []api.Come, in []int, until int) (worst, bool) {
	t.Helper()
	times, f := kernel.Admit(x.l)
	if f.Code != api.OK {
		return nil, false
	}
	log, f := kernel.Run(x.l, comes, in, until)
	if f != (api.Fault{}) {
		t.Fatalf("%v (%v)", f, comes)
	}
	s.sets++
	most := make(worst, len(x.l))
	free, want := withoutBlocks(x.l), puts(t, x, in)
	for i, e := range told(t, comes, log) {
		task, took := comes[i].Task, e.done-comes[i].At
		if comes[i].At+times[task] <= until {
			s.jobs++
			if e.done < 0 || took > times[task] {
				t.Errorf("job %d, of task %d: done at %d, came at %d, of %v", i, task, e.done, comes[i].At, times)
			}
			if took == times[task] {
				s.just++
			}
			if took > free[task] {
				s.longer++
			}
			most[task] = max(most[task], took)
		}
		s.wantPuts(t, task, e, want[task])
	}
	if t.Failed() {
		t.Fatalf("%v, in %v, until %d:\n%s", x, in, until, written(log))
	}
	return most, true
}

// withoutBlocks is what chapter 9 says if nobody held anyone up.
func withoutBlocks(l []api.Loaded) []int {
	var set []api.Task
	for _, t := range l {
		set = append(set, t.Task)
	}
	free, _ := fixed.Responses(set, make([]int, len(l)))
	return free
}

// puts are of each task what chapter 4 says that goes out of its image, which is what chapter 3 says of its body.
func puts(t *testing.T, x made, in []int) [][]api.Put {
	t.Helper()
	var all [][]api.Put
	for i, one := range x.l {
		out, f := mach.Run(one.Image, make([]int, 8), in)
		if f != (api.Fault{}) {
			t.Fatal(f)
		}
		if body := x.bodies[i]; body != nil {
			means, f := meaning.Run(body, make([]int, 8), in)
			if f != (api.Fault{}) || !slices.Equal(means.Puts, out.Puts) {
				t.Fatalf("of the body %v %v, of the image %v", means.Puts, f, out.Puts)
			}
		}
		all = append(all, out.Puts)
	}
	return all
}

// wantPuts: did just that go out of a job, in this order? If it isn't done, it may be less.
func (s *promise) wantPuts(t *testing.T, task int, e ended, want []api.Put) {
	t.Helper()
	if e.done < 0 {
		s.cut++
		want = want[:min(len(want), len(e.puts))]
	}
	if !slices.Equal(e.puts, want) {
		t.Errorf("of task %d went out %v, want %v", task, e.puts, want)
	}
	s.puts += len(e.puts)
}

// TestFollowsExamples: held up as long as may be, by the worst coming.
func TestFollowsExamples(t *testing.T) {
	var s promise
	l := loads(loaded("a", 3, 20, 2, "lock 0, work 1, unlock 0"), loaded("b", 8, 30, 1, "lock 0, work 3, unlock 0, push 5, out 2"))
	x := made{l, make([][]api.Stmt, 2)}
	wantAdmit(t, "two", l, 7, 11)
	for _, c := range []struct {
		comes []api.Come
		want  worst
	}{
		{come(1, 0, 0, 0), worst{3, 11}},
		{come(1, 0, 0, 1), worst{7, 11}},
		{come(1, 0, 0, 2), worst{6, 11}},
		{come(1, 0, 0, 4), worst{4, 11}},
		{come(1, 0, 0, 5), worst{3, 11}},
		{come(1, 0, 0, 7), worst{3, 11}},
		{come(1, 0, 0, 8), worst{3, 8}},
	} {
		if got, ok := s.wantPromise(t, x, c.comes, make([]int, 4), 30); !ok || !slices.Equal(got, c.want) {
			t.Errorf("%v: %v, want %v", c.comes, got, c.want)
		}
	}
	if s.just < 7 || s.longer < 3 {
		t.Errorf("seen: %+v", s)
	}
}

// TestFollowsMade: over many made tasks, images, bodies and comings.
func TestFollowsMade(t *testing.T) {
	m := newMaker(4)
	var s promise
	for s.sets < 15000 {
		x := m.tasks(m.within(1, m.one(2, 3, 5, 8)), m.one(20, 40, 60), false)
		until := m.one(m.Intn(30), 100, 300)
		for range 3 {
			s.wantPromise(t, x, m.comes(x.l, until+5), m.numbers(4), until)
		}
	}
	if s.jobs < 100000 || s.just < 20000 || s.longer < 100 || s.puts < 10000 || s.cut < 1000 {
		t.Errorf("seen: %+v", s)
	}
}

// TestFollowsHeld: others come just as one with a lesser P has taken a lock.
func TestFollowsHeld(t *testing.T) {
	m := newMaker(5)
	var s promise
	for s.sets < 8000 {
		x := m.tasks(m.within(2, m.one(2, 4, 8)), m.one(20, 40), false)
		in := m.numbers(4)
		for low, one := range x.l {
			for at, k := range ticks(one.Image, in, 60) {
				if !k.last || k.x.Op != api.ILock {
					continue
				}
				comes := []api.Come{{Task: low}}
				for _, i := range m.Perm(len(x.l)) {
					if i != low && m.Intn(4) > 0 {
						comes = append(comes, api.Come{Task: i, At: at + 1})
					}
				}
				s.wantPromise(t, x, comes, in, 400)
			}
		}
	}
	if s.just < 2000 || s.longer < 800 {
		t.Errorf("seen: %+v", s)
	}
}

// TestFollowsLong: tasks as they come as soon as they may, as long as may be.
func TestFollowsLong(t *testing.T) {
	m := newMaker(6)
	var s promise
	for s.sets < 20 {
		x := m.tasks(8, 40, false)
		if _, f := kernel.Admit(x.l); f.Code == api.OK {
			s.wantPromise(t, x, m.comes(x.l, api.MaxUntil), m.numbers(4), api.MaxUntil)
		}
	}
	if s.jobs < 20000 {
		t.Errorf("seen: %+v", s)
	}
}

// TestFollowsShort: however two tasks come, and of each the worst coming takes just as long as Admit says.
func TestFollowsShort(t *testing.T) {
	texts := []string{"work 1", "work 3", "lock 0, unlock 0", "lock 0, work 2, unlock 0", "work 1, lock 0, unlock 0", "lock 0, unlock 0, work 1", "lock 1, lock 0, work 1, unlock 0, unlock 1", "lock 0, work 1, lock 1, unlock 1, unlock 0"}
	var s promise
	exact := 0
	for _, a := range texts {
		for _, b := range texts {
			for _, p := range []int{0, 1} {
				l := loads(loaded("a", 1, 9, 1, a), loaded("b", 1, 14, p, b))
				for i := range l {
					bound, _ := wcet.Analyse(l[i].Image)
					l[i].Task.C = bound.Worst
				}
				times, f := kernel.Admit(l)
				if f.Code != api.OK {
					continue
				}
				most := make(worst, 2)
				eachLegal(l, 12, func(comes []api.Come) {
					got, _ := s.wantPromise(t, made{l, make([][]api.Stmt, 2)}, comes, make([]int, 4), 40)
					most[0], most[1] = max(most[0], got[0]), max(most[1], got[1])
				})
				if !slices.Equal(most, times) {
					t.Errorf("%q and %q, P %d: %v at most, want %v", a, b, p, most, times)
				}
				exact++
			}
		}
	}
	if exact < 100 || s.longer < 1000 {
		t.Errorf("%d sets, %+v", exact, s)
	}
}

// TestFollowsThree: however three tasks come, each once.
func TestFollowsThree(t *testing.T) {
	texts := []string{"work 2", "lock 0, work 2, unlock 0", "lock 0, unlock 0, lock 1, unlock 1", "lock 1, work 1, lock 0, unlock 0, unlock 1"}
	var s promise
	for _, a := range texts {
		for _, b := range texts {
			for _, c := range texts {
				l := loads(loaded("a", 1, 30, 3, a), loaded("b", 1, 30, 2, b), loaded("c", 1, 30, 1, c))
				for i := range l {
					bound, _ := wcet.Analyse(l[i].Image)
					l[i].Task.C = bound.Worst
				}
				eachLegal(l, 6, func(comes []api.Come) {
					s.wantPromise(t, made{l, make([][]api.Stmt, 3)}, comes, make([]int, 4), 40)
				})
			}
		}
	}
	if s.sets < 20000 || s.longer < 5000 || s.just < 5000 {
		t.Errorf("%+v", s)
	}
}

// eachLegal goes through all ways in which tasks can come legally ahead of a time, at one time in all orders.
func eachLegal(l []api.Loaded, times int, see func(comes []api.Come)) {
	var from func(now int, comes []api.Come)
	from = func(now int, comes []api.Come) {
		if now == times {
			see(comes)
			return
		}
		for _, order := range orders(len(l)) {
			next := slices.Clip(comes)
			legal := true
			for _, i := range order {
				soon := func(c api.Come) bool { return c.Task == i && now-c.At < l[i].Task.T }
				legal = legal && !slices.ContainsFunc(comes, soon)
				next = append(next, api.Come{Task: i, At: now})
			}
			if legal {
				from(now+1, next)
			}
		}
	}
	from(0, nil)
}
