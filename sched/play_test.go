package sched_test

import (
	"math"
	"slices"
	"testing"

	"punctual/api"
	"punctual/sched"
)

func TestPlayNobody(t *testing.T) {
	eachWay(func(policy int, preempt bool) {
		for _, until := range []int{0, 1, 9, api.MaxUntil} {
			wantPlay(t, "no jobs", nil, policy, preempt, none(until), nil)
			wantPlay(t, "no jobs", []api.Job{}, policy, preempt, none(until), nil)
		}
		wantPlay(t, "no ticks", many(3), policy, preempt, nil, none(3))
		wantPlay(t, "it comes at until", []api.Job{by(1, 5, 1)}, policy, preempt, none(5), none(1))
		wantPlay(t, "it comes behind until", []api.Job{by(1, lastAt, 1), by(1, api.MaxUntil, 1)}, policy, preempt, none(api.MaxUntil), none(2))
	})
}

func TestPlayOne(t *testing.T) {
	eachWay(func(policy int, preempt bool) {
		wantPlay(t, "at 0", []api.Job{by(1, 0, 3)}, policy, preempt, runs(0, 3, -1, 2), []int{3})
		wantPlay(t, "later", []api.Job{by(1, 2, 3)}, policy, preempt, runs(-1, 2, 0, 3, -1, 1), []int{5})
		wantPlay(t, "done just at until", []api.Job{by(1, 2, 3)}, policy, preempt, runs(-1, 2, 0, 3), []int{5})
		wantPlay(t, "not done at until", []api.Job{by(1, 2, 3)}, policy, preempt, runs(-1, 2, 0, 2), []int{-1})
		wantPlay(t, "the last tick", []api.Job{by(1, api.MaxUntil-1, 1)}, policy, preempt, runs(-1, api.MaxUntil-1, 0, 1), []int{api.MaxUntil})
		wantPlay(t, "a long one", []api.Job{by(1, 0, api.MaxTime)}, policy, preempt, runs(0, api.MaxTime, -1, 1), []int{api.MaxTime})
		wantPlay(t, "due ahead of its coming", []api.Job{due(3, 2, 0)}, policy, preempt, runs(-1, 3, 0, 2), []int{5})
		wantPlay(t, "runs on though it is late", []api.Job{due(0, 4, 1)}, policy, preempt, runs(0, 4, -1, 1), []int{4})
		wantPlay(t, "any P and Task", []api.Job{{Task: math.MinInt, C: 1, P: math.MinInt}, {Task: math.MaxInt, At: 1, C: 1, Due: 9, P: math.MaxInt}}, policy, preempt, []int{0, 1, -1}, []int{1, 2})
	})
}

func TestPlayFixed(t *testing.T) {
	for _, c := range []struct {
		what     string
		jobs     []api.Job
		ran, end []int
	}{
		{"the greatest P", []api.Job{by(1, 0, 2), by(3, 0, 1), by(2, 0, 2)}, runs(1, 1, 2, 2, 0, 2, -1, 1), []int{5, 1, 3}},
		{"one comes while another runs", []api.Job{by(1, 0, 4), by(2, 2, 2)}, runs(0, 2, 1, 2, 0, 2), []int{6, 4}},
		{"a lesser one comes", []api.Job{by(2, 0, 3), by(1, 1, 1)}, runs(0, 3, 1, 1), []int{3, 4}},
		{"three within one another", []api.Job{by(1, 0, 3), by(2, 1, 3), by(3, 2, 1)}, runs(0, 1, 1, 1, 2, 1, 1, 2, 0, 2), []int{7, 5, 3}},
		{"nobody there between", []api.Job{by(1, 0, 1), by(1, 3, 1)}, []int{0, -1, -1, 1, -1}, []int{1, 4}},
		{"the same P, the least At", []api.Job{by(5, 1, 2), by(5, 0, 2)}, runs(1, 2, 0, 2), []int{4, 2}},
		{"the same P, the least At, behind a greater one", []api.Job{by(5, 2, 1), by(5, 1, 1), by(9, 0, 3)}, runs(2, 3, 1, 1, 0, 1), []int{5, 4, 3}},
		{"the same P and At, the first one", []api.Job{by(5, 0, 2), by(5, 0, 1), by(5, 0, 1)}, runs(0, 2, 1, 1, 2, 1), []int{2, 3, 4}},
		{"Due isn't asked", []api.Job{with(by(5, 0, 1), func(j *api.Job) { j.Due = 9 }), with(by(5, 0, 1), func(j *api.Job) { j.Due = 1 })}, []int{0, 1}, []int{1, 2}},
		{"the Task isn't asked", []api.Job{{Task: 5, C: 1, P: 1}, {Task: 1, C: 1, P: 1}, {Task: 9, C: 1, P: 1}}, []int{0, 1, 2}, []int{1, 2, 3}},
		{"below 0", []api.Job{by(-2, 0, 1), by(-1, 0, 1), by(0, 0, 1)}, []int{2, 1, 0}, []int{3, 2, 1}},
		{"as far apart as may be", []api.Job{by(math.MinInt, 0, 1), by(math.MaxInt, 0, 1), by(0, 0, 1)}, []int{1, 2, 0}, []int{3, 1, 2}},
		{"as far apart as may be", []api.Job{by(math.MaxInt, 0, 1), by(-1, 0, 1), by(math.MinInt, 0, 1)}, []int{0, 1, 2}, []int{1, 2, 3}},
		{"not done at until", []api.Job{by(1, 0, 2), by(2, 1, 9)}, []int{0, 1, 1, 1}, []int{-1, -1}},
	} {
		wantPlay(t, c.what, c.jobs, api.Fixed, true, c.ran, c.end)
	}
}

func TestPlayEarliest(t *testing.T) {
	p := func(p int, j api.Job) api.Job { return with(j, func(j *api.Job) { j.P = p }) }
	for _, c := range []struct {
		what     string
		jobs     []api.Job
		ran, end []int
	}{
		{"the least Due", []api.Job{due(0, 2, 9), due(0, 1, 3), due(0, 2, 5)}, runs(1, 1, 2, 2, 0, 2, -1, 1), []int{5, 1, 3}},
		{"one comes while another runs", []api.Job{due(0, 4, 9), due(2, 2, 5)}, runs(0, 2, 1, 2, 0, 2), []int{6, 4}},
		{"one that is due later comes", []api.Job{due(0, 3, 5), due(1, 1, 9)}, runs(0, 3, 1, 1), []int{3, 4}},
		{"due in fewer ticks, but later", []api.Job{due(0, 3, 5), due(4, 1, 6), due(1, 1, 7)}, []int{0, 0, 0, 2, 1}, []int{3, 5, 4}},
		{"the same Due, the least At", []api.Job{due(1, 2, 8), due(0, 2, 8)}, runs(1, 2, 0, 2), []int{4, 2}},
		{"the same Due and At, the first one", []api.Job{due(0, 2, 8), due(0, 1, 8), due(0, 1, 8)}, runs(0, 2, 1, 1, 2, 1), []int{2, 3, 4}},
		{"P isn't asked", []api.Job{p(1, due(0, 1, 8)), p(2, due(0, 1, 8)), p(9, due(0, 1, 9))}, []int{0, 1, 2}, []int{1, 2, 3}},
		{"the Task isn't asked", []api.Job{{Task: 5, C: 1, Due: 1}, {Task: 1, C: 1, Due: 1}}, []int{0, 1}, []int{1, 2}},
		{"due at both ends", []api.Job{due(0, 1, lastDue), due(0, 1, 0), due(0, 1, lastDue-1)}, []int{1, 2, 0}, []int{3, 1, 2}},
		{"late ones first", []api.Job{due(0, 3, 1), due(0, 1, 3)}, runs(0, 3, 1, 1), []int{3, 4}},
	} {
		wantPlay(t, c.what, c.jobs, api.Earliest, true, c.ran, c.end)
	}
}

func TestPlayWithoutPreempt(t *testing.T) {
	for _, c := range []struct {
		what     string
		policy   int
		jobs     []api.Job
		ran, end []int
	}{
		{"it runs on", api.Fixed, []api.Job{by(1, 0, 4), by(2, 2, 2)}, runs(0, 4, 1, 2), []int{4, 6}},
		{"it runs on", api.Earliest, []api.Job{due(0, 4, 9), due(2, 2, 5)}, runs(0, 4, 1, 2), []int{4, 6}},
		{"who goes first when it is done", api.Fixed, []api.Job{by(1, 0, 3), by(2, 1, 2), by(3, 2, 2)}, runs(0, 3, 2, 2, 1, 2), []int{3, 7, 5}},
		{"who goes first when it is done", api.Earliest, []api.Job{due(0, 3, 9), due(1, 2, 8), due(2, 2, 7)}, runs(0, 3, 2, 2, 1, 2), []int{3, 7, 5}},
		{"one that comes just when it is done", api.Fixed, []api.Job{by(1, 0, 3), by(2, 1, 2), by(3, 3, 2)}, runs(0, 3, 2, 2, 1, 2), []int{3, 7, 5}},
		{"one that comes a tick behind that", api.Fixed, []api.Job{by(1, 0, 3), by(2, 1, 2), by(3, 4, 2)}, runs(0, 3, 1, 2, 2, 2), []int{3, 5, 7}},
		{"one that comes when another begins", api.Fixed, []api.Job{by(1, 2, 2), by(2, 2, 2)}, runs(-1, 2, 1, 2, 0, 2), []int{6, 4}},
		{"one tick each", api.Fixed, []api.Job{by(1, 0, 1), by(2, 0, 1), by(3, 1, 1)}, []int{1, 2, 0}, []int{3, 1, 2}},
		{"the same P", api.Fixed, []api.Job{by(1, 1, 2), by(1, 0, 2), by(1, 1, 1)}, runs(1, 2, 0, 2, 2, 1), []int{4, 2, 5}},
		{"behind ticks in which nobody ran", api.Fixed, []api.Job{by(1, 0, 1), by(1, 3, 2), by(9, 4, 1)}, []int{0, -1, -1, 1, 1, 2, -1}, []int{1, 5, 6}},
		{"not done at until", api.Fixed, []api.Job{by(1, 0, 9), by(2, 1, 1)}, runs(0, 5), []int{-1, -1}},
		{"done just at until", api.Fixed, []api.Job{by(1, 0, 5), by(2, 1, 1)}, runs(0, 5), []int{5, -1}},
	} {
		wantPlay(t, c.what, c.jobs, c.policy, false, c.ran, c.end)
	}
}

// TestPlayAnotherWay: what is played is what the rules say word by word.
func TestPlayAnotherWay(t *testing.T) {
	m := newMaker(4)
	idle, open, held := 0, 0, 0
	for range 10000 {
		jobs := m.jobs(9, 1+m.Intn(14))
		until := m.Intn(30)
		eachWay(func(policy int, preempt bool) {
			want := otherPlay(jobs, policy, preempt, until)
			wantPlay(t, "made", jobs, policy, preempt, want.Runs, want.Ends)
			if slices.Contains(want.Runs, -1) {
				idle++
			}
			if slices.Contains(want.Ends, -1) {
				open++
			}
			if !preempt && !samePlayed(want, otherPlay(jobs, policy, true, until)) {
				held++
			}
		})
	}
	if idle < 5000 || open < 5000 || held < 5000 {
		t.Errorf("%d with ticks of nobody, %d with jobs that aren't done, %d that hang on preempt", idle, open, held)
	}
}

// TestPlayShort: all lists of up to three jobs, of few numbers, till all are done.
func TestPlayShort(t *testing.T) {
	var kinds []api.Job
	for at := range 3 {
		for c := range 2 {
			for d := range 2 {
				for p := range 2 {
					kinds = append(kinds, api.Job{At: at, C: 1 + c, Due: d, P: p})
				}
			}
		}
	}
	var all func(l []api.Job)
	all = func(l []api.Job) {
		eachWay(func(policy int, preempt bool) {
			want := otherPlay(l, policy, preempt, 9)
			wantPlay(t, "short", l, policy, preempt, want.Runs, want.Ends)
		})
		if len(l) == 3 {
			return
		}
		for _, j := range kinds {
			all(append(slices.Clip(l), j))
		}
	}
	all(nil)
}

// TestPlayMany: as many jobs as may be, in as many ticks as may be; of one kind, so that the list alone says who goes first.
func TestPlayMany(t *testing.T) {
	jobs := slices.Repeat([]api.Job{{C: 5, Due: lastDue}}, api.MaxJobs)
	var ran, ends []int
	for i := range api.MaxJobs {
		ran = append(ran, i, i, i, i, i)
		ends = append(ends, 5*i+5)
	}
	eachWay(func(policy int, preempt bool) { wantPlay(t, "many", jobs, policy, preempt, ran, ends) })
}

// TestPlayFalling: each that comes goes ahead of all that are there, so that with preempt they are done the other way round.
func TestPlayFalling(t *testing.T) {
	const n = api.MaxJobs
	jobs, nested, onward := make([]api.Job, n), none(n), none(n)
	for i := range jobs {
		jobs[i] = api.Job{At: i, C: 5, Due: n - i, P: i}
		// Each has run one tick when the next one comes; the last one runs all its five.
		nested[i] = n + 4 + 4*(n-1-i)
	}
	// Without preempt, every fifth one comes just when one is done; the others are left till all are there.
	for i := 0; i < n; i += 5 {
		onward[i] = i + 5
	}
	now := n
	for i := n - 1; i >= 0; i-- {
		if i%5 != 0 {
			now += 5
			onward[i] = now
		}
	}
	for _, policy := range []int{api.Fixed, api.Earliest} {
		if p, f := sched.Play(jobs, policy, true, api.MaxUntil); f != (api.Fault{}) || !slices.Equal(p.Ends, nested) {
			t.Errorf("by %d, with preempt: %v", policy, f)
		}
		if p, f := sched.Play(jobs, policy, false, api.MaxUntil); f != (api.Fault{}) || !slices.Equal(p.Ends, onward) {
			t.Errorf("by %d, without preempt: %v", policy, f)
		}
	}
}

// TestPlayBeginning: more ticks change nothing in those ahead of them.
func TestPlayBeginning(t *testing.T) {
	m := newMaker(5)
	for range 200 {
		jobs := m.jobs(9, 14)
		eachWay(func(policy int, preempt bool) {
			whole, _ := sched.Play(jobs, policy, preempt, 40)
			for until := range 40 {
				ends := none(len(jobs))
				for i, end := range whole.Ends {
					if end <= until {
						ends[i] = end
					}
				}
				wantPlay(t, "the beginning", jobs, policy, preempt, whole.Runs[:until], ends)
			}
		})
	}
}
