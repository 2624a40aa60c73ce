package edf_test

import (
	"math/big"
	"math/rand"
	"slices"
	"testing"

	"punctual/api"
	"punctual/edf"
)

func fault(code api.Errno, at int) api.Fault { return api.Fault{Code: code, At: at} }

// task is one whose D is its T.
func task(c, t int) api.Task { return api.Task{C: c, T: t, D: t} }

// due is one with a D of its own.
func due(c, t, d int) api.Task { return api.Task{C: c, T: t, D: d} }

// late is one which may be there j ticks late.
func late(c, t, d, j int) api.Task { return api.Task{C: c, T: t, D: d, J: j} }

// named gives tasks the names a, b, c and so on.
func named(l ...api.Task) []api.Task {
	set := slices.Clone(l)
	for i := range set {
		set[i].Name = string(rune('a' + i))
	}
	return set
}

// job is one that is there at a time, takes c ticks, and is due at another time.
func job(at, c, due int) api.Job { return api.Job{At: at, C: c, Due: due} }

// changed is a copy of a list of which one entry is changed.
func changed[E any](l []E, i int, change func(e *E)) []E {
	l = slices.Clone(l)
	change(&l[i])
	return l
}

func wantDemand(t *testing.T, what string, set []api.Task, ticks, want int, f api.Fault) {
	t.Helper()
	if got, g := edf.Demand(set, ticks); got != want || g != f {
		t.Errorf("Demand, %s, of %d: %d %v, want %d %v (%v)", what, ticks, got, g, want, f, set)
	}
}

func wantBusy(t *testing.T, what string, set []api.Task, want int, f api.Fault) {
	t.Helper()
	if got, g := edf.Busy(set); got != want || g != f {
		t.Errorf("Busy, %s: %d %v, want %d %v (%v)", what, got, g, want, f, set)
	}
}

func wantFits(t *testing.T, what string, set []api.Task, f api.Fault) {
	t.Helper()
	if g := edf.Fits(set); g != f {
		t.Errorf("Fits, %s: %v, want %v (%v)", what, g, f, set)
	}
}

func wantJudge(t *testing.T, what string, jobs []api.Job, a, b int, f api.Fault) {
	t.Helper()
	if x, y, g := edf.Judge(jobs); x != a || y != b || g != f {
		t.Errorf("Judge, %s: %d %d %v, want %d %d %v (%v)", what, x, y, g, a, b, f, jobs[:min(len(jobs), 20)])
	}
}

// enough: does Judge say that some order does all jobs in time?
func enough(t *testing.T, what string, jobs []api.Job) {
	t.Helper()
	wantJudge(t, what, jobs, 0, 0, api.Fault{})
}

// tooMuch: does Judge say that from a to b there is too much?
func tooMuch(t *testing.T, what string, a, b int, jobs ...api.Job) {
	t.Helper()
	wantJudge(t, what, jobs, a, b, fault(api.ErrNone, 0))
}

// otherDemand is P10.1 job by job: all that may be due in so many ticks, the first one as late as it may be.
func otherDemand(set []api.Task, ticks int) int {
	sum := 0
	for _, t := range set {
		for at := t.D - t.J; at <= ticks; at += t.T {
			sum += t.C
		}
	}
	return sum
}

// usesTooMuch: is the sum of all C / T above 1?
func usesTooMuch(set []api.Task) bool {
	sum := new(big.Rat)
	for _, t := range set {
		sum.Add(sum, big.NewRat(int64(t.C), int64(t.T)))
	}
	return sum.Cmp(big.NewRat(1, 1)) > 0
}

// otherBusy is P10.2 tick by tick, of a set with which nothing is wrong: each w is tried, from the least one on.
func otherBusy(set []api.Task) (int, api.Fault) {
	if usesTooMuch(set) {
		return 0, fault(api.ErrNone, 0)
	}
	next := make([]int, len(set))
	for i, t := range set {
		next[i] = -t.J
	}
	come := 0
	for w := 1; w <= api.MaxHyper; w++ {
		for i, t := range set {
			for next[i] < w {
				next[i] += t.T
				come += t.C
			}
		}
		if come == w {
			return w, api.Fault{}
		}
	}
	return 0, fault(api.ErrRange, 0)
}

// otherFits is P10.3 tick by tick, of a set with which nothing is wrong.
func otherFits(set []api.Task) api.Fault {
	busy, f := otherBusy(set)
	if f.Code != api.OK {
		return f
	}
	next := make([]int, len(set)) // of each task: when the next one is due
	for i, t := range set {
		next[i] = t.D - t.J
	}
	sum := 0
	for ticks := range busy + 1 {
		for i, t := range set {
			for next[i] <= ticks {
				next[i] += t.T
				sum += t.C
			}
		}
		if sum > ticks {
			return fault(api.ErrNone, ticks)
		}
	}
	return api.Fault{}
}

// otherJudge is P10.4 word by word, of jobs with which nothing is wrong, and of which none is there, or due, behind most.
func otherJudge(jobs []api.Job, most int) (int, int, api.Fault) {
	for a := range most + 1 {
		if !slices.ContainsFunc(jobs, func(j api.Job) bool { return j.At == a }) {
			continue
		}
		for b := range most + 1 {
			if !slices.ContainsFunc(jobs, func(j api.Job) bool { return j.Due == b }) {
				continue
			}
			some, ticks := 0, 0
			for _, j := range jobs {
				if !(j.At < a) && j.Due <= b {
					some++
					ticks += j.C
				}
			}
			if some > 0 && ticks > b-a {
				return a, b, fault(api.ErrNone, 0)
			}
		}
	}
	return 0, 0, api.Fault{}
}

// maker makes sets and jobs, always the same ones from the same seed.
type maker struct{ *rand.Rand }

func newMaker(seed int64) maker { return maker{rand.New(rand.NewSource(seed))} }

// one is one of some numbers.
func (m maker) one(l ...int) int { return l[m.Intn(len(l))] }

// within is a number from least to most.
func (m maker) within(least, most int) int { return least + m.Intn(most-least+1) }

// set is one of n tasks with periods up to most, which together use about share hundredths of the time; D lies below, at or above T.
func (m maker) set(n, most, share int) []api.Task {
	var set []api.Task
	for range n {
		period := m.within(min(2, most), most)
		c := min(period, max(1, period*m.Intn(2*share+1)/(100*n)))
		d := m.one(period, m.within(c, period), min(api.MaxTime, m.within(c, 3*period)))
		set = append(set, api.Task{C: c, T: period, D: d, P: m.Intn(n)})
	}
	return named(set...)
}

// jitter lets some tasks be late, a bit or much.
func (m maker) jitter(set []api.Task) []api.Task {
	set = slices.Clone(set)
	for i := range set {
		switch m.Intn(8) {
		case 0, 1, 2:
			set[i].J = m.Intn(1 + set[i].D - set[i].C)
		case 3:
			set[i].J = min(api.MaxTime, m.Intn(2*set[i].T))
		}
	}
	return set
}

// jobs are n jobs, there in the first few ticks, with about so many ticks more than they take.
func (m maker) jobs(n, ticks, longest, spare int) []api.Job {
	var jobs []api.Job
	for i := range n {
		j := api.Job{Task: i, At: m.Intn(ticks), C: m.within(1, longest), P: m.Intn(3)}
		j.Due = j.At + j.C + m.Intn(spare+1)
		if m.Intn(40) == 0 {
			j.Due = m.Intn(j.At + j.C)
		}
		jobs = append(jobs, j)
	}
	return jobs
}
