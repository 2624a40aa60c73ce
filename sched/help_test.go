package sched_test

import (
	"fmt"
	"math"
	"math/rand"
	"slices"
	"testing"

	"punctual/api"
	"punctual/sched"
)

const (
	lastAt  = 3 * api.MaxUntil
	lastDue = 4 * api.MaxUntil
)

func fault(code api.Errno, at int) api.Fault { return api.Fault{Code: code, At: at} }

// by is a job with a priority that is due late.
func by(p, at, c int) api.Job { return api.Job{At: at, C: c, Due: 1000, P: p} }

// due is a job that is due at a time, all of whose priorities are the same.
func due(at, c, due int) api.Job { return api.Job{At: at, C: c, Due: due, P: 7} }

// with is a copy of a job that is changed.
func with(j api.Job, change func(j *api.Job)) api.Job {
	change(&j)
	return j
}

// many are n jobs that nothing is wrong with.
func many(n int) []api.Job {
	jobs := make([]api.Job, n)
	for i := range jobs {
		jobs[i] = api.Job{Task: i, At: i, C: 1 + i%7, Due: i + 20, P: i % 11}
	}
	return jobs
}

// none are n times -1.
func none(n int) []int {
	l := make([]int, n)
	for i := range l {
		l[i] = -1
	}
	return l
}

// runs writes down who ran: each number so many times as the one behind it says.
func runs(l ...int) []int {
	var all []int
	for i := 0; i < len(l); i += 2 {
		for range l[i+1] {
			all = append(all, l[i])
		}
	}
	return all
}

// samePlayed: was it played alike, whether lists with nothing in them are nil or not?
func samePlayed(a, b api.Played) bool {
	return slices.Equal(a.Runs, b.Runs) && slices.Equal(a.Ends, b.Ends)
}

// nothing: is there no list in it?
func nothing(p api.Played) bool { return p.Runs == nil && p.Ends == nil }

// wantCheck: does Check say so, and Play, too, whatever else is wrong with what it is given?
func wantCheck(t *testing.T, what string, jobs []api.Job, want api.Fault) {
	t.Helper()
	if got := sched.Check(jobs); got != want {
		t.Errorf("Check, %s: %v, want %v", what, got, want)
	}
	if want.Code == api.OK {
		return
	}
	for _, policy := range []int{api.Fixed, api.Earliest, 0, 3, -1} {
		for _, until := range []int{0, 10, -1, api.MaxUntil + 1} {
			for _, preempt := range []bool{true, false} {
				wantNoPlay(t, what, jobs, policy, preempt, until, want)
			}
		}
	}
}

func wantNoPlay(t *testing.T, what string, jobs []api.Job, policy int, preempt bool, until int, want api.Fault) {
	t.Helper()
	if p, f := sched.Play(jobs, policy, preempt, until); f != want || !nothing(p) {
		t.Errorf("Play, %s, by %d, %v, until %d: %.300s %v, want %v", what, policy, preempt, until, fmt.Sprint(p), f, want)
	}
}

// wantPlay: is what is played just the ticks and ends that are wanted?
func wantPlay(t *testing.T, what string, jobs []api.Job, policy int, preempt bool, ran, ends []int) {
	t.Helper()
	want := api.Played{Runs: ran, Ends: ends}
	p, f := sched.Play(jobs, policy, preempt, len(ran))
	if f != (api.Fault{}) || !samePlayed(p, want) {
		t.Errorf("Play, %s, by %d, %v: %.300s %v, want %.300s (%.300s)", what, policy, preempt, fmt.Sprint(p), f, fmt.Sprint(want), fmt.Sprint(jobs))
	}
}

func wantLate(t *testing.T, what string, jobs []api.Job, p api.Played, want []int, f api.Fault) {
	t.Helper()
	got, g := sched.Late(jobs, p)
	if g != f || !slices.Equal(got, want) || f.Code != api.OK && got != nil {
		t.Errorf("Late, %s: %.300s %v, want %.300s %v", what, fmt.Sprint(got), g, fmt.Sprint(want), f)
	}
}

// otherCheck is P8.1 in another way: how far each number lies outside.
func otherCheck(jobs []api.Job) api.Fault {
	if len(jobs) >= 4001 {
		return fault(api.ErrMany, 0)
	}
	at := slices.IndexFunc(jobs, func(j api.Job) bool {
		return min(j.At, j.C-1, j.Due) < 0 || j.C < 1 || j.At > 60000 || j.C > 10000 || j.Due > 80000
	})
	if at >= 0 {
		return fault(api.ErrRange, at)
	}
	return api.Fault{}
}

// otherPlay is P8.2 word by word, of what nothing is wrong with: in each tick all jobs are gone through, and how long each has run is counted anew in who ran.
func otherPlay(jobs []api.Job, policy int, preempt bool, until int) api.Played {
	p := api.Played{Ends: none(len(jobs))}
	there := func(i, now int) bool { return jobs[i].At <= now && p.Ends[i] < 0 }
	ahead := func(a, b api.Job) bool { // of which a stands ahead in the list
		if policy == api.Fixed && a.P != b.P {
			return a.P > b.P
		}
		if policy == api.Earliest && a.Due != b.Due {
			return a.Due < b.Due
		}
		return a.At <= b.At
	}
	for now := range until {
		who := -1
		for i, j := range jobs {
			if there(i, now) && (who < 0 || !ahead(jobs[who], j)) {
				who = i
			}
		}
		if !preempt && now > 0 && p.Runs[now-1] >= 0 && there(p.Runs[now-1], now) {
			who = p.Runs[now-1]
		}
		p.Runs = append(p.Runs, who)
		if who < 0 {
			continue
		}
		ran := 0
		for _, i := range p.Runs {
			if i == who {
				ran++
			}
		}
		if ran == jobs[who].C {
			p.Ends[who] = now + 1
		}
	}
	return p
}

// otherLate is P8.3 in another way, of jobs that were played: one is late if it hasn't all its ticks ahead of Due, as far as ticks were played.
func otherLate(jobs []api.Job, p api.Played) []int {
	var late []int
	for i, j := range jobs {
		if j.Due > len(p.Runs) {
			continue // whatever it has by then, it may still be done in time
		}
		ran := 0
		for _, who := range p.Runs[:j.Due] {
			if who == i {
				ran++
			}
		}
		if ran < j.C {
			late = append(late, i)
		}
	}
	return late
}

// maker makes jobs, always the same ones from the same seed.
type maker struct{ *rand.Rand }

func newMaker(seed int64) maker { return maker{rand.New(rand.NewSource(seed))} }

// one is one of some numbers.
func (m maker) one(l ...int) int { return l[m.Intn(len(l))] }

// jobs are up to most jobs that nothing is wrong with, within some ticks.
func (m maker) jobs(most, ticks int) []api.Job {
	var jobs []api.Job
	for range m.Intn(most + 1) {
		at := m.Intn(ticks)
		p := m.Intn(4)
		if m.Intn(8) == 0 {
			p = m.one(-1, -3, math.MinInt, math.MaxInt, math.MinInt+1, math.MaxInt-1)
		}
		jobs = append(jobs, api.Job{Task: m.one(0, 1, -1, math.MinInt, math.MaxInt), At: at, C: 1 + m.Intn(5), Due: max(0, at+m.Intn(12)-1), P: p})
	}
	return jobs
}

// edges are jobs of which each number lies mostly at an end of what is allowed, and now and then beyond it.
func (m maker) edges() []api.Job {
	number := func(least, most int) int {
		if m.Intn(40) == 0 {
			return m.one(least-1, most+1, math.MinInt, math.MaxInt)
		}
		return m.one(least, least+1, most-1, most)
	}
	var jobs []api.Job
	for range m.Intn(12) {
		jobs = append(jobs, api.Job{Task: m.one(-1, 0, math.MinInt, math.MaxInt), At: number(0, lastAt), C: number(1, api.MaxTime), Due: number(0, lastDue), P: m.one(-1, 0, math.MinInt, math.MaxInt)})
	}
	return jobs
}

// eachWay calls with both policies, with preempt and without.
func eachWay(call func(policy int, preempt bool)) {
	for _, policy := range []int{api.Fixed, api.Earliest} {
		call(policy, true)
		call(policy, false)
	}
}
