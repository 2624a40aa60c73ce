package redo_test

import (
	"fmt"
	"math"
	"math/rand"
	"slices"
	"testing"

	"punctual/api"
	"punctual/redo"
)

const (
	lastAt  = 3 * api.MaxUntil
	lastDue = 4 * api.MaxUntil
)

func fault(code api.Errno, at int) api.Fault { return api.Fault{Code: code, At: at} }

// task is one whose D is its T.
func task(c, t, p int) api.Task { return api.Task{C: c, T: t, D: t, P: p} }

// due is one with a D of its own.
func due(c, t, d, p int) api.Task { return api.Task{C: c, T: t, D: d, P: p} }

// late is one whose D is its T, and which may be there j ticks late.
func late(c, t, j, p int) api.Task { return api.Task{C: c, T: t, D: t, J: j, P: p} }

// named gives tasks the names a, b, c and so on.
func named(l ...api.Task) []api.Task {
	set := slices.Clone(l)
	for i := range set {
		set[i].Name = string(rune('a' + i))
	}
	return set
}

// pair are the tasks of the document's tests.
func pair() []api.Task { return named(task(1, 4, 3), task(2, 6, 2)) }

// several are n tasks of which each goes ahead of those behind it, and which are in time with much to spare.
func several(n int) []api.Task {
	var set []api.Task
	for i := range n {
		set = append(set, task(2, 1000+i, 100-i))
	}
	return named(set...)
}

// changed is a copy of a list of which one is changed.
func changed[E any](l []E, i int, change func(e *E)) []E {
	l = slices.Clone(l)
	change(&l[i])
	return l
}

// by is a job with a priority.
func by(p, at, c int) api.Job { return api.Job{At: at, C: c, Due: 1000, P: p} }

func jobs(l ...api.Job) []api.Job { return l }

func ints(l ...int) []int { return l }

// many are n jobs that nothing is wrong with.
func many(n int) []api.Job {
	l := make([]api.Job, n)
	for i := range l {
		l[i] = api.Job{Task: i, At: i, C: 1 + i%7, Due: i + 20, P: i % 11}
	}
	return l
}

// every are n faults, each so many ticks behind the one ahead of it.
func every(n, from, apart int) []int {
	l := make([]int, n)
	for i := range l {
		l[i] = from + i*apart
	}
	return l
}

// none are n times -1.
func none(n int) []int { return slices.Repeat([]int{-1}, n) }

// runs writes down who ran: each number so many times as the one behind it says.
func runs(l ...int) []int {
	var all []int
	for i := 0; i < len(l); i += 2 {
		all = append(all, slices.Repeat(l[i:i+1], l[i+1])...)
	}
	return all
}

func wantResponse(t *testing.T, what string, set []api.Task, i, gap, step, want int) {
	t.Helper()
	if got, f := redo.Response(set, i, gap, step); got != want || f != (api.Fault{}) {
		t.Errorf("Response, %s, of %d with %d and %d: %d %v, want %d (%v)", what, i, gap, step, got, f, want, set)
	}
}

func wantNoResponse(t *testing.T, what string, set []api.Task, i, gap, step int, want api.Fault) {
	t.Helper()
	if got, f := redo.Response(set, i, gap, step); got != 0 || f != want {
		t.Errorf("Response, %s, of %d with %d and %d: %d %v, want %v (%.300s)", what, i, gap, step, got, f, want, fmt.Sprint(set))
	}
}

// wantBad: does Response tell this of a set, and nothing else, whatever else is wrong?
func wantBad(t *testing.T, what string, set []api.Task, want api.Fault) {
	t.Helper()
	for _, i := range []int{0, len(set) - 1, -1, len(set), 100} {
		for _, gap := range []int{100, 1, 0, -1, api.MaxUntil, api.MaxUntil + 1} {
			for _, step := range []int{0, 1, -1, api.MaxTime, api.MaxTime + 1} {
				wantNoResponse(t, what, set, i, gap, step, want)
			}
		}
	}
}

// wantPlay: is it played just so, in as many ticks as are wanted?
func wantPlay(t *testing.T, what string, jobs []api.Job, step int, faults, ran, ends []int) {
	t.Helper()
	p, f := redo.Play(jobs, step, faults, len(ran))
	if f != (api.Fault{}) || !slices.Equal(p.Runs, ran) || !slices.Equal(p.Ends, ends) {
		t.Errorf("Play, %s, with %d and %.300s: %.300s %v, want %.300s %.300s (%.300s)", what, step, fmt.Sprint(faults),
			fmt.Sprint(p), f, fmt.Sprint(ran), fmt.Sprint(ends), fmt.Sprint(jobs))
	}
}

func wantNoPlay(t *testing.T, what string, jobs []api.Job, step int, faults []int, until int, want api.Fault) {
	t.Helper()
	p, f := redo.Play(jobs, step, faults, until)
	if f != want || p.Runs != nil || p.Ends != nil {
		t.Errorf("Play, %s, with %d and %.300s, until %d: %.300s %v, want %v", what, step, fmt.Sprint(faults), until, fmt.Sprint(p), f, want)
	}
}

// often is how often what comes every so many ticks comes in w ticks.
func often(w, every int) int {
	n := 0
	for at := 0; at < w; at += every {
		n++
	}
	return n
}

// otherLoss is the loss of a task, word by word.
func otherLoss(t api.Task, step int) int {
	if step != 0 && step < t.C {
		return step
	}
	return t.C
}

// otherResponse is P17.1 word by word, of what nothing is wrong with but that there may be none: each w is tried, from the least one on.
func otherResponse(set []api.Task, i, gap, step int) (int, api.Fault) {
	loss := otherLoss(set[i], step)
	for k, o := range set {
		if k != i && o.P >= set[i].P {
			loss = max(loss, otherLoss(o, step))
		}
	}
	for w := 1; w <= set[i].D; w++ {
		asked := set[i].C + often(w, gap)*loss
		for k, o := range set {
			if k != i && o.P >= set[i].P {
				asked += often(w+o.J, o.T) * o.C
			}
		}
		if asked != w {
			continue
		}
		if w+set[i].J > set[i].D {
			break
		}
		return w + set[i].J, api.Fault{}
	}
	return 0, fault(api.ErrNone, i)
}

// otherDone is how much work is done that isn't undone, of a job that ran in those ticks: with step, what isn't undone is always a number of whole steps.
func otherDone(ticks []int, step int, faults []int) int {
	done := 0
	for _, tick := range ticks {
		switch {
		case !slices.Contains(faults, tick):
			done++
		case step == 0:
			done = 0
		default:
			done = done / step * step
		}
	}
	return done
}

// otherPlay is P17.2 word by word, of what nothing is wrong with: in each tick all jobs are gone through, and what was done is counted anew in when each ran.
func otherPlay(jobs []api.Job, step int, faults []int, until int) (ran, ends []int) {
	ends = none(len(jobs))
	ticks := make([][]int, len(jobs))
	for now := range until {
		first := -1
		for i, j := range jobs {
			if j.At > now || ends[i] >= 0 {
				continue
			}
			if first < 0 || j.P > jobs[first].P || j.P == jobs[first].P && j.At < jobs[first].At {
				first = i
			}
		}
		ran = append(ran, first)
		if first < 0 {
			continue
		}
		ticks[first] = append(ticks[first], now)
		if otherDone(ticks[first], step, faults) == jobs[first].C {
			ends[first] = now + 1
		}
	}
	return ran, ends
}

// otherCheck is what Play says of all but the jobs, in another way: each thing that may be wrong is looked for alone.
func otherCheck(step int, faults []int, until int) api.Fault {
	for _, bad := range []bool{step <= -1, step >= 10001, until <= -1, until >= 20001} {
		if bad {
			return fault(api.ErrRange, 0)
		}
	}
	if len(faults) >= 4001 {
		return fault(api.ErrMany, 0)
	}
	for i := 1; i < len(faults); i++ {
		if !(faults[i-1] < faults[i]) {
			return fault(api.ErrOrder, i)
		}
	}
	return api.Fault{}
}

// maker makes sets, jobs and faults, always the same ones from the same seed.
type maker struct{ *rand.Rand }

func newMaker(seed int64) maker { return maker{rand.New(rand.NewSource(seed))} }

// one is one of some numbers.
func (m maker) one(l ...int) int { return l[m.Intn(len(l))] }

// within is a number from least to most.
func (m maker) within(least, most int) int { return least + m.Intn(most-least+1) }

// set is one of n tasks with periods up to most, which together use about share hundredths of the time; no D is above its T, some J aren't 0, and some P are the same.
func (m maker) set(n, most, share int) []api.Task {
	var set []api.Task
	for range n {
		period := m.within(min(2, most), most)
		c := min(period, max(1, period*m.Intn(2*share+1)/(100*n)))
		t := api.Task{C: c, T: period, D: m.one(period, period, m.within(c, period)), P: m.Intn(n + 2)}
		switch m.Intn(6) {
		case 0, 1:
			t.J = m.Intn(t.D/2 + 1)
		case 2:
			t.J = min(api.MaxTime, m.Intn(2*period))
		}
		set = append(set, t)
	}
	return named(set...)
}

// order gives the tasks priorities of which no two are the same.
func (m maker) order(set []api.Task) []api.Task {
	set = slices.Clone(set)
	for i, p := range m.Perm(len(set)) {
		set[i].P = p
	}
	return set
}

// jobs are up to most jobs that nothing is wrong with, within some ticks.
func (m maker) jobs(most, ticks int) []api.Job {
	var l []api.Job
	for range m.Intn(most + 1) {
		p := m.Intn(4)
		if m.Intn(8) == 0 {
			p = m.one(-1, -3, math.MinInt, math.MaxInt)
		}
		l = append(l, api.Job{Task: m.one(0, 1, -1, math.MaxInt), At: m.Intn(ticks), C: m.within(1, 6), Due: m.Intn(30), P: p})
	}
	return l
}

// faults are some that lie gap ticks apart, or more, ahead of until.
func (m maker) faults(gap, until int) []int {
	lazy := m.one(0, 0, 3, 20)
	var l []int
	for at := m.Intn(gap + lazy + 1); at < until; at += gap + m.Intn(lazy+1) {
		l = append(l, at)
	}
	return l
}
