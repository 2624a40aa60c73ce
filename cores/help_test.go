package cores_test

import (
	"fmt"
	"math/big"
	"math/rand"
	"slices"
	"testing"

	"punctual/api"
	"punctual/cores"
	"punctual/edf"
)

const (
	lastAt  = 3 * api.MaxUntil
	lastDue = 4 * api.MaxUntil
)

func fault(code api.Errno, at int) api.Fault { return api.Fault{Code: code, At: at} }

func ints(l ...int) []int { return l }

// task is one whose D is its T.
func task(c, t int) api.Task { return api.Task{C: c, T: t, D: t} }

// due is one with a D of its own.
func due(c, t, d int) api.Task { return api.Task{C: c, T: t, D: d} }

// late is one that may be there j ticks late.
func late(c, t, d, j int) api.Task { return api.Task{C: c, T: t, D: d, J: j} }

// named gives tasks the names a, b, c and so on.
func named(l ...api.Task) []api.Task {
	set := slices.Clone(l)
	for i := range set {
		set[i].Name = string(rune('a' + i))
	}
	return set
}

// tenths are tasks that use so many tenths of a core each.
func tenths(l ...int) []api.Task {
	var set []api.Task
	for _, c := range l {
		set = append(set, task(c, 10))
	}
	return named(set...)
}

// by is a job with a priority that is due late.
func by(p, at, c int) api.Job { return api.Job{At: at, C: c, Due: 1000, P: p} }

// till is a job that is due at a time, all of whose priorities are the same.
func till(at, c, due int) api.Job { return api.Job{At: at, C: c, Due: due, P: 7} }

// many are n jobs that nothing is wrong with.
func many(n int) []api.Job {
	jobs := make([]api.Job, n)
	for i := range jobs {
		jobs[i] = api.Job{Task: i, At: i, C: 1 + i%7, Due: i + 20, P: i % 11}
	}
	return jobs
}

// changed is a copy of a list of which one entry is changed.
func changed[E any](l []E, i int, change func(e *E)) []E {
	l = slices.Clone(l)
	change(&l[i])
	return l
}

// none are n times -1.
func none(n int) []int { return slices.Repeat([]int{-1}, n) }

// ticks are lists of who runs.
func ticks(l ...[]int) [][]int { return l }

// eachCores calls with each number of cores.
func eachCores(call func(n int)) {
	for n := range api.MaxCores {
		call(n + 1)
	}
}

func wantSpread(t *testing.T, what string, set []api.Task, n int, want ...int) {
	t.Helper()
	if got, f := cores.Spread(set, n); f != (api.Fault{}) || !slices.Equal(got, want) {
		t.Errorf("Spread, %s, on %d: %v %v, want %v (%v)", what, n, got, f, want, set)
	}
}

func wantNoSpread(t *testing.T, what string, set []api.Task, n int, want api.Fault) {
	t.Helper()
	if got, f := cores.Spread(set, n); f != want || got != nil {
		t.Errorf("Spread, %s, on %d: %v %v, want %v (%v)", what, n, got, f, want, set)
	}
}

func wantDense(t *testing.T, what string, set []api.Task, n int, want bool) {
	t.Helper()
	if got, f := cores.Dense(set, n); f != (api.Fault{}) || got != want {
		t.Errorf("Dense, %s, on %d: %v %v, want %v (%v)", what, n, got, f, want, set)
	}
}

func wantNoDense(t *testing.T, what string, set []api.Task, n int, want api.Fault) {
	t.Helper()
	if got, f := cores.Dense(set, n); f != want || got {
		t.Errorf("Dense, %s, on %d: %v %v, want %v (%v)", what, n, got, f, want, set)
	}
}

// sameTicks: are the lists of who runs the same, whether those with nothing in them are nil or not?
func sameTicks(a, b [][]int) bool {
	return slices.EqualFunc(a, b, func(x, y []int) bool { return slices.Equal(x, y) })
}

// wantPlay: is it played just so, in as many ticks as are wanted?
func wantPlay(t *testing.T, what string, jobs []api.Job, policy, n int, ran [][]int, ends []int) {
	t.Helper()
	r, e, f := cores.Play(jobs, policy, n, len(ran))
	if f != (api.Fault{}) || !sameTicks(r, ran) || !slices.Equal(e, ends) {
		t.Errorf("Play, %s, by %d, on %d: %.300s %.300s %v, want %.300s %.300s (%.300s)", what, policy, n,
			fmt.Sprint(r), fmt.Sprint(e), f, fmt.Sprint(ran), fmt.Sprint(ends), fmt.Sprint(jobs))
	}
}

func wantNoPlay(t *testing.T, what string, jobs []api.Job, policy, n, until int, want api.Fault) {
	t.Helper()
	if r, e, f := cores.Play(jobs, policy, n, until); f != want || r != nil || e != nil {
		t.Errorf("Play, %s, by %d, on %d, until %d: %.300s %.300s %v, want %v", what, policy, n, until, fmt.Sprint(r), fmt.Sprint(e), f, want)
	}
}

// eachWay calls with each way to give n tasks one of some cores: the first task counts most, lower numbers come first.
func eachWay(n, some int, call func(way []int) bool) {
	way := make([]int, n)
	for {
		if !call(way) {
			return
		}
		i := n - 1
		for ; i >= 0 && way[i] == some-1; i-- {
			way[i] = 0
		}
		if i < 0 {
			return
		}
		way[i]++
	}
}

// fitsOn tells of ways whether they fit, core by core, of a set that nothing is wrong with.
func fitsOn(set []api.Task, some int) func(way []int) bool {
	known := map[[api.MaxTasks]int]api.Fault{} // of who lies on a core
	return func(way []int) bool {
		for core := range some {
			var lie []api.Task
			var who [api.MaxTasks]int
			for i, t := range set {
				if way[i] == core {
					lie = append(lie, t)
					who[i] = 1
				}
			}
			if len(lie) == 0 {
				continue
			}
			if _, ok := known[who]; !ok {
				known[who] = edf.Fits(lie)
			}
			if known[who].Code != api.OK {
				return false
			}
		}
		return true
	}
}

// otherSpread is P14.1 word by word, of what nothing is wrong with: all ways that fit are told, in order.
func otherSpread(set []api.Task, some int) [][]int {
	fit := fitsOn(set, some)
	var ways [][]int
	eachWay(len(set), some, func(way []int) bool {
		if fit(way) {
			ways = append(ways, slices.Clone(way))
		}
		return true
	})
	return ways
}

// spare is what Dense leaves, of a set that nothing is wrong with: what is allowed, less the sum.
func spare(set []api.Task, some int) *big.Rat {
	most := new(big.Rat)
	left := big.NewRat(int64(some), 1)
	for _, t := range set {
		use := big.NewRat(int64(t.C), int64(t.D))
		left.Sub(left, use)
		if use.Cmp(most) > 0 {
			most = use
		}
	}
	return left.Sub(left, most.Mul(most, big.NewRat(int64(some-1), 1)))
}

// seen counts what happened in what was played.
type seen struct {
	fewer, just, more int // ticks in which fewer, as many, or more were there than cores
	ahead             int // one that ran in the tick ahead, and isn't done, gave way to one that came
	alike             int // one runs, and another one that goes first likewise waits
	open              int // one isn't done
}

// otherPlay is P14.3 word by word, of what nothing is wrong with: in each tick all that are there are looked at, and the one that goes first is taken out of them again and again.
func (s *seen) otherPlay(jobs []api.Job, policy, some, until int) (ran [][]int, ends []int) {
	ends = none(len(jobs))
	worked := make([]int, len(jobs))
	var last []int
	for now := range until {
		var there, run []int
		for i, j := range jobs {
			if j.At <= now && worked[i] < j.C {
				there = append(there, i)
			}
		}
		s.howMany(len(there), some)
		for len(run) < some && len(there) > 0 {
			first := 0
			for k := range there {
				if goesFirst(jobs, policy, there[k], there[first]) {
					first = k
				}
			}
			run = append(run, there[first])
			there = slices.Delete(there, first, first+1)
		}
		s.wait(jobs, policy, there, run, last)
		for _, i := range run {
			worked[i]++
			if worked[i] == jobs[i].C {
				ends[i] = now + 1
			}
		}
		ran = append(ran, run)
		last = run
	}
	if slices.Contains(ends, -1) {
		s.open++
	}
	return ran, ends
}

// howMany counts a tick in which so many are there.
func (s *seen) howMany(there, some int) {
	switch {
	case there < some:
		s.fewer++
	case there == some:
		s.just++
	default:
		s.more++
	}
}

// wait counts those that wait while others run.
func (s *seen) wait(jobs []api.Job, policy int, waiting, run, last []int) {
	for _, i := range waiting {
		if slices.Contains(last, i) {
			s.ahead++
		}
		if slices.ContainsFunc(run, func(k int) bool {
			return policy == api.Fixed && jobs[i].P == jobs[k].P || policy == api.Earliest && jobs[i].Due == jobs[k].Due
		}) {
			s.alike++
		}
	}
}

// goesFirst: does a go ahead of b?
func goesFirst(jobs []api.Job, policy, a, b int) bool {
	x, y := jobs[a], jobs[b]
	switch {
	case policy == api.Fixed && x.P != y.P:
		return x.P > y.P
	case policy == api.Earliest && x.Due != y.Due:
		return x.Due < y.Due
	case x.At != y.At:
		return x.At < y.At
	}
	return a < b
}

// maker makes sets, comings and jobs, always the same ones from the same seed.
type maker struct{ *rand.Rand }

func newMaker(seed int64) maker { return maker{rand.New(rand.NewSource(seed))} }

// one is one of some numbers.
func (m maker) one(l ...int) int { return l[m.Intn(len(l))] }

// within is a number from least to most.
func (m maker) within(least, most int) int { return least + m.Intn(most-least+1) }

// set is one of n tasks with periods up to most, which together use about share hundredths of a core; no J, and no D above its T.
func (m maker) set(n, most, share int) []api.Task {
	var set []api.Task
	for range n {
		period := m.within(min(2, most), most)
		c := min(period, max(1, period*m.Intn(2*share+1)/(100*n)))
		set = append(set, api.Task{C: c, T: period, D: m.one(period, period, m.within(c, period)), P: m.Intn(n)})
	}
	return named(set...)
}

// jitter lets some tasks be late, and some be due behind their next coming.
func (m maker) jitter(set []api.Task) []api.Task {
	set = slices.Clone(set)
	for i := range set {
		switch m.Intn(8) {
		case 0, 1, 2:
			set[i].J = m.Intn(1 + set[i].D - set[i].C)
		case 3:
			set[i].D = m.within(set[i].D, 3*set[i].T)
		case 4:
			set[i].J = m.Intn(2 * set[i].T)
		}
	}
	return set
}

// jobs are up to most jobs that nothing is wrong with, within some ticks.
func (m maker) jobs(most, ticks int) []api.Job {
	var jobs []api.Job
	for i := range m.Intn(most + 1) {
		at := m.Intn(ticks)
		jobs = append(jobs, api.Job{Task: i, At: at, C: m.within(1, 5), Due: max(0, at+m.Intn(12)-1), P: m.Intn(4)})
	}
	return jobs
}
