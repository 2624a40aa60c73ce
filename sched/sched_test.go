package sched_test

import (
	"math"
	"slices"
	"testing"

	"punctual/api"
	"punctual/sched"
)

func TestCheck(t *testing.T) {
	good := api.Job{At: 5, C: 3, Due: 9, P: 2}
	at := func(n int) api.Job { return with(good, func(j *api.Job) { j.At = n }) }
	c := func(n int) api.Job { return with(good, func(j *api.Job) { j.C = n }) }
	till := func(n int) api.Job { return with(good, func(j *api.Job) { j.Due = n }) }
	p := func(n int) api.Job { return with(good, func(j *api.Job) { j.P = n }) }
	task := func(n int) api.Job { return with(good, func(j *api.Job) { j.Task = n }) }
	for _, x := range []struct {
		what string
		job  api.Job
		ok   bool
	}{
		{"ordinary", good, true},
		{"At", at(-1), false}, {"At", at(0), true}, {"At", at(lastAt), true}, {"At", at(lastAt + 1), false},
		{"At", at(api.MaxUntil + 1), true}, {"At", at(math.MinInt), false}, {"At", at(math.MaxInt), false},
		{"C", c(-1), false}, {"C", c(0), false}, {"C", c(1), true}, {"C", c(api.MaxTime), true}, {"C", c(api.MaxTime + 1), false},
		{"C", c(math.MinInt), false}, {"C", c(math.MaxInt), false},
		{"Due", till(-1), false}, {"Due", till(0), true}, {"Due", till(lastDue), true}, {"Due", till(lastDue + 1), false},
		{"Due", till(lastAt + 1), true}, {"Due", till(math.MinInt), false}, {"Due", till(math.MaxInt), false},
		{"due ahead of At", till(4), true}, {"too little time", till(6), true},
		{"P", p(-1), true}, {"P", p(0), true}, {"P", p(1001), true}, {"P", p(math.MinInt), true}, {"P", p(math.MaxInt), true},
		{"Task", task(-1), true}, {"Task", task(0), true}, {"Task", task(api.MaxTasks), true}, {"Task", task(math.MinInt), true}, {"Task", task(math.MaxInt), true},
		{"all at the least", api.Job{C: 1, Task: math.MinInt, P: math.MinInt}, true},
		{"all at the most", api.Job{At: lastAt, C: api.MaxTime, Due: lastDue, Task: math.MaxInt, P: math.MaxInt}, true},
		{"all wrong", api.Job{At: -1, Due: -1}, false},
	} {
		for n := range 4 {
			want := api.Fault{}
			if !x.ok {
				want = fault(api.ErrRange, n)
			}
			jobs := append(slices.Repeat([]api.Job{good}, n), x.job, good)
			wantCheck(t, x.what, jobs, want)
		}
	}
	wantCheck(t, "the first one of several", []api.Job{good, c(0), at(-1), till(-1)}, fault(api.ErrRange, 1))
	wantCheck(t, "the first one of several", []api.Job{good, good, till(-1), c(0), at(-1)}, fault(api.ErrRange, 2))
	wantCheck(t, "the zero value", []api.Job{{}}, fault(api.ErrRange, 0))
}

func TestCheckHowMany(t *testing.T) {
	wantCheck(t, "none", nil, api.Fault{})
	wantCheck(t, "none", []api.Job{}, api.Fault{})
	wantCheck(t, "as many as may be", many(api.MaxJobs), api.Fault{})
	wantCheck(t, "one too many", many(api.MaxJobs+1), fault(api.ErrMany, 0))
	last := many(api.MaxJobs)
	last[api.MaxJobs-1].C = 0
	wantCheck(t, "the last one wrong", last, fault(api.ErrRange, api.MaxJobs-1))
	wantCheck(t, "one too many, and the first one wrong", append([]api.Job{{}}, many(api.MaxJobs)...), fault(api.ErrMany, 0))
	wantCheck(t, "one too many, and all wrong", make([]api.Job, api.MaxJobs+1), fault(api.ErrMany, 0))
}

func TestCheckAnotherWay(t *testing.T) {
	m := newMaker(1)
	seen := map[api.Errno]int{}
	for range 5000 {
		jobs := m.edges()
		want := otherCheck(jobs)
		seen[want.Code]++
		wantCheck(t, "edges", jobs, want)
	}
	if seen[api.OK] < 1000 || seen[api.ErrRange] < 1000 {
		t.Errorf("seen: %v", seen)
	}
}

// TestPlayWrong: the policy is asked behind the jobs, and until behind the policy.
func TestPlayWrong(t *testing.T) {
	for _, jobs := range [][]api.Job{nil, {}, many(1), many(50), many(api.MaxJobs)} {
		for _, preempt := range []bool{true, false} {
			for _, policy := range []int{0, 3, -1, -2, 4, math.MinInt, math.MaxInt} {
				for _, until := range []int{0, 1, 30, api.MaxUntil, -1, api.MaxUntil + 1, math.MinInt, math.MaxInt} {
					wantNoPlay(t, "no policy", jobs, policy, preempt, until, fault(api.ErrOp, 0))
				}
			}
			for _, policy := range []int{api.Fixed, api.Earliest} {
				for _, until := range []int{-1, api.MaxUntil + 1, lastAt, math.MinInt, math.MaxInt} {
					wantNoPlay(t, "until", jobs, policy, preempt, until, fault(api.ErrRange, 0))
				}
			}
		}
	}
}

func TestLate(t *testing.T) {
	job := func(end int) api.Job { return api.Job{C: 1, Due: end} }
	ticks := func(n int, ends ...int) api.Played { return api.Played{Runs: none(n), Ends: ends} }
	for _, c := range []struct {
		what string
		jobs []api.Job
		p    api.Played
		want []int
	}{
		{"none", nil, api.Played{}, nil},
		{"none", []api.Job{}, ticks(20), nil},
		{"just at Due", []api.Job{job(5)}, ticks(20, 5), nil},
		{"one above Due", []api.Job{job(5)}, ticks(20, 6), []int{0}},
		{"one below Due", []api.Job{job(5)}, ticks(20, 4), nil},
		{"far above Due", []api.Job{job(5)}, ticks(20, 20), []int{0}},
		{"not done, due below the ticks", []api.Job{job(19)}, ticks(20, -1), []int{0}},
		{"not done, due at the ticks", []api.Job{job(20)}, ticks(20, -1), []int{0}},
		{"not done, due above the ticks", []api.Job{job(21)}, ticks(20, -1), nil},
		{"not done, due far above the ticks", []api.Job{job(lastDue)}, ticks(20, -1), nil},
		{"not done, due at 0, no ticks", []api.Job{job(0)}, ticks(0, -1), []int{0}},
		{"not done, due at 1, no ticks", []api.Job{job(1)}, ticks(0, -1), nil},
		{"done at 0, due at 0", []api.Job{job(0)}, ticks(20, 0), nil},
		{"done at 1, due at 0", []api.Job{job(0)}, ticks(20, 1), []int{0}},
		{"done, late, in ticks that weren't played", []api.Job{job(40)}, ticks(20, 41), []int{0}},
		{"done in time, in ticks that weren't played", []api.Job{job(40)}, ticks(20, 40), nil},
		{"below 0 is not done, however far", []api.Job{job(20), job(21), job(20), job(21)}, ticks(20, -2, -2, math.MinInt, math.MinInt), []int{0, 2}},
		{"several, rising", []api.Job{job(9), job(3), job(20), job(2), job(30), job(1)}, ticks(20, 10, 3, -1, 12, -1, 2), []int{0, 2, 3, 5}},
		{"all", []api.Job{job(3), job(2), job(1)}, ticks(20, 4, 4, 4), []int{0, 1, 2}},
		{"jobs that Check refuses, too", []api.Job{{Due: -1}, {Due: -9}, {At: -3, C: -3, Due: 5}, {Due: math.MaxInt}, {Due: math.MinInt}}, ticks(20, 0, -1, 5, 9, 0), []int{0, 1, 4}},
		{"an end below 0 that is above Due", []api.Job{{Due: -9}, {Due: math.MinInt}}, ticks(0, -1, -5), []int{0, 1}},
		{"who ran isn't asked", []api.Job{job(5)}, api.Played{Runs: []int{7, -9, 0}, Ends: []int{5}}, nil},
	} {
		wantLate(t, c.what, c.jobs, c.p, c.want, api.Fault{})
	}
}

func TestLateHowMany(t *testing.T) {
	for n := range 4 {
		for ends := range 6 {
			p := api.Played{Runs: none(9), Ends: none(ends)}
			if n == ends {
				want := []int{0, 1, 2}[:n]
				wantLate(t, "as many", make([]api.Job, n), p, want, api.Fault{})
				continue
			}
			wantLate(t, "too few or too many", make([]api.Job, n), p, nil, fault(api.ErrMany, 0))
		}
	}
	wantLate(t, "no ends", many(3), api.Played{Runs: none(3)}, nil, fault(api.ErrMany, 0))
	wantLate(t, "no jobs", nil, api.Played{Ends: []int{3}}, nil, fault(api.ErrMany, 0))
	great := api.MaxJobs + 5
	l, f := sched.Late(make([]api.Job, great), api.Played{Ends: none(great)})
	if f != (api.Fault{}) || len(l) != great || l[great-1] != great-1 {
		t.Errorf("Late, more jobs than are played: %d %v", len(l), f)
	}
}

// TestLateAnotherWay: of jobs that were played, of which each Due lies below, at or above the ticks.
func TestLateAnotherWay(t *testing.T) {
	m := newMaker(2)
	late, inTime := 0, 0
	for range 5000 {
		jobs := m.jobs(8, 12)
		eachWay(func(policy int, preempt bool) {
			p, f := sched.Play(jobs, policy, preempt, m.Intn(20))
			if f != (api.Fault{}) {
				t.Fatal(f)
			}
			want := otherLate(jobs, p)
			late += len(want)
			inTime += len(jobs) - len(want)
			wantLate(t, "made", jobs, p, want, api.Fault{})
		})
	}
	if late < 10000 || inTime < 10000 {
		t.Errorf("%d were late, %d in time", late, inTime)
	}
}

func TestNothingIsChanged(t *testing.T) {
	m := newMaker(3)
	for range 300 {
		jobs := m.jobs(10, 12)
		room := append(slices.Clone(jobs), api.Job{At: 5, C: 5, Due: 5, P: 5}, api.Job{Task: -4})
		kept := slices.Clone(room)
		eachWay(func(policy int, preempt bool) {
			given := room[:len(jobs)]
			sched.Check(given)
			p, _ := sched.Play(given, policy, preempt, 15)
			who, ends := append(slices.Clone(p.Runs), 77), append(slices.Clone(p.Ends), 88)
			late, _ := sched.Late(given, api.Played{Runs: who[:15], Ends: ends[:len(jobs)]})
			for i := range late {
				late[i] = -5
			}
			if !slices.Equal(room, kept) || !slices.Equal(who, append(slices.Clone(p.Runs), 77)) || !slices.Equal(ends, append(slices.Clone(p.Ends), 88)) {
				t.Errorf("changed: %v %v %v", room, who, ends)
			}
		})
	}
}

// TestAnswersAreNew: what is done to an answer is seen in no other list.
func TestAnswersAreNew(t *testing.T) {
	jobs := []api.Job{due(0, 2, 1), due(0, 2, 2), due(1, 3, 30)}
	p, _ := sched.Play(jobs, api.Earliest, true, 9)
	again, _ := sched.Play(jobs, api.Earliest, true, 9)
	kept := api.Played{Runs: slices.Clone(p.Runs), Ends: slices.Clone(p.Ends)}
	p.Runs = append(p.Runs[:0], slices.Repeat([]int{50}, cap(p.Runs))...)
	if !slices.Equal(p.Ends, kept.Ends) || !samePlayed(again, kept) {
		t.Errorf("Runs shares: %v %v", p, again)
	}
	p.Ends = append(p.Ends[:0], slices.Repeat([]int{60}, cap(p.Ends))...)
	if p.Runs[0] != 50 || p.Runs[8] != 50 || !samePlayed(again, kept) {
		t.Errorf("Ends shares: %v %v", p, again)
	}
	third, _ := sched.Play(jobs, api.Earliest, true, 9)
	if !samePlayed(third, kept) {
		t.Errorf("Play keeps something: %v", third)
	}
}
