package redo_test

import (
	"fmt"
	"math"
	"slices"
	"testing"

	"punctual/api"
	"punctual/redo"
	"punctual/sched"
)

func TestPlayOfTheDocument(t *testing.T) {
	l := jobs(api.Job{C: 4, Due: 9, P: 1})
	wantPlay(t, "checkpoints", l, 2, ints(1, 3), runs(0, 8, -1, 1), ints(8))
	wantPlay(t, "all anew", l, 0, ints(2), runs(0, 7, -1, 2), ints(7))
	wantPlay(t, "since the last one", l, 3, ints(3, 8), runs(0, 5, -1, 4), ints(5))
	wantNoPlay(t, "in order", l, 0, ints(2, 2), 9, fault(api.ErrOrder, 1))
}

// TestPlayOneFault: one job of six ticks, there at 2, with a fault in one of them: how many ticks are lost.
func TestPlayOneFault(t *testing.T) {
	for _, c := range []struct {
		step int
		lost []int // by a fault in its first tick, its second one, and so on
	}{
		{0, ints(1, 2, 3, 4, 5, 6)},
		{1, ints(1, 1, 1, 1, 1, 1)},
		{2, ints(1, 2, 1, 2, 1, 2)}, // it divides C
		{3, ints(1, 2, 3, 1, 2, 3)},
		{4, ints(1, 2, 3, 4, 1, 2)}, // it doesn't
		{5, ints(1, 2, 3, 4, 5, 1)},
		{6, ints(1, 2, 3, 4, 5, 6)},
		{7, ints(1, 2, 3, 4, 5, 6)},
		{api.MaxTime, ints(1, 2, 3, 4, 5, 6)},
	} {
		l := jobs(by(1, 2, 6))
		for i, lost := range c.lost {
			wantPlay(t, "in one of its ticks", l, c.step, ints(2+i), runs(-1, 2, 0, 6+lost, -1, 2), ints(8+lost))
		}
		for _, at := range []int{math.MinInt, -1, 0, 1, 8, 9, 10, 11, 12, math.MaxInt} {
			wantPlay(t, "in none of its ticks", l, c.step, ints(at), runs(-1, 2, 0, 6, -1, 2), ints(8))
		}
		wantPlay(t, "no faults", l, c.step, nil, runs(-1, 2, 0, 6, -1, 2), ints(8))
		wantPlay(t, "no faults", l, c.step, ints(), runs(-1, 2, 0, 6, -1, 2), ints(8))
	}
}

func TestPlaySeveralFaults(t *testing.T) {
	one := jobs(by(1, 0, 6))
	for _, c := range []struct {
		what   string
		step   int
		faults []int
		end    int
	}{
		{"two in a row ahead of a checkpoint", 3, ints(2, 3), 10},
		{"two in a row, at a checkpoint and behind it", 3, ints(3, 4), 8},
		{"two in a row at the beginning", 3, ints(0, 1), 8},
		{"two in a row at the end", 3, ints(5, 6), 10},
		{"two in a row, all anew", 0, ints(4, 5), 12},
		{"just ahead of each checkpoint", 3, ints(2, 8), 12},
		{"twice just ahead of the same checkpoint", 3, ints(2, 5), 12},
		{"the second one when a part is done anew", 3, ints(2, 4), 11},
		{"the checkpoint lies elsewhere behind a fault", 3, ints(1, 5), 9},
		{"twice at the end", 4, ints(5, 7), 10},
		{"in each of its first ticks", 3, every(9, 0, 1), 15},
		{"in each other tick, a step of a tick", 1, every(9, 0, 2), 12},
		{"in each other tick, from the second one on", 1, every(9, 1, 2), 11},
		{"below 0 and in its ticks", 3, ints(-3, -2, -1, 1, 999), 8},
	} {
		wantPlay(t, c.what, one, c.step, c.faults, runs(0, c.end, -1, 2), ints(c.end))
	}
	for _, step := range []int{0, 2, 3} {
		wantPlay(t, "in each other tick", one, step, every(20, 1, 2), runs(0, 40), none(1))
		wantPlay(t, "in each tick", one, step, every(40, 0, 1), runs(0, 40), none(1))
	}
	wantPlay(t, "in each tick, a step of a tick", one, 1, every(40, 0, 1), runs(0, 40), none(1))
	short := jobs(by(1, 0, 1))
	wantPlay(t, "a job of a tick", short, 0, ints(0, 1, 3), ints(0, 0, 0, -1, -1), ints(3))
	wantPlay(t, "a job of a tick, a step of a tick", short, 1, ints(0, 1, 3), ints(0, 0, 0, -1, -1), ints(3))
}

func TestPlayAtUntil(t *testing.T) {
	l := jobs(by(1, 0, 4))
	wantPlay(t, "done just then", l, 2, ints(1), runs(0, 6), ints(6))
	wantPlay(t, "not done", l, 2, ints(1), runs(0, 5), ints(-1))
	wantPlay(t, "a fault in the last tick that is played", l, 2, ints(3), runs(0, 4), ints(-1))
	wantPlay(t, "a fault at until", l, 2, ints(4), runs(0, 4), ints(4))
	wantPlay(t, "a fault behind it", l, 2, ints(5, math.MaxInt), runs(0, 4), ints(4))
	wantPlay(t, "no ticks", l, 2, ints(0), nil, ints(-1))
	wantPlay(t, "no ticks, no jobs", nil, 0, ints(0), nil, nil)
	wantPlay(t, "no jobs", nil, 0, ints(0), none(3), nil)
	wantPlay(t, "it comes at until", jobs(by(1, 5, 1)), 0, ints(4, 5), none(5), none(1))
	wantPlay(t, "it comes far behind it", jobs(by(1, lastAt, 1)), 0, nil, none(api.MaxUntil), none(1))
	wantPlay(t, "the last tick", jobs(by(1, api.MaxUntil-2, 1)), 0, ints(api.MaxUntil-2), runs(-1, api.MaxUntil-2, 0, 2), ints(api.MaxUntil))
	long := jobs(by(1, 0, api.MaxTime))
	wantPlay(t, "a long one, all anew", long, 0, ints(api.MaxTime-1), runs(0, api.MaxUntil), ints(api.MaxUntil))
	wantPlay(t, "a long one, the greatest step", long, api.MaxTime, ints(api.MaxTime-1), runs(0, api.MaxUntil), ints(api.MaxUntil))
	wantPlay(t, "a long one, one less", long, api.MaxTime-1, ints(api.MaxTime-1), runs(0, api.MaxTime+1, -1, 1), ints(api.MaxTime+1))
	wantPlay(t, "a long one, a step of a tick", long, 1, ints(api.MaxTime-1), runs(0, api.MaxTime+1, -1, 1), ints(api.MaxTime+1))
	wantPlay(t, "a long one, twice", long, 0, ints(0, api.MaxTime), runs(0, api.MaxUntil), none(1))
}

func TestPlayStopped(t *testing.T) {
	// The first one has a checkpoint at 2, and has done a tick more when the second one stops it.
	two := jobs(by(1, 0, 6), by(2, 3, 2))
	wantPlay(t, "no fault", two, 2, nil, runs(0, 3, 1, 2, 0, 3), ints(8, 5))
	wantPlay(t, "just as it goes on", two, 2, ints(5), runs(0, 3, 1, 2, 0, 5), ints(10, 5))
	wantPlay(t, "behind its next checkpoint", two, 2, ints(6), runs(0, 3, 1, 2, 0, 4), ints(9, 5))
	wantPlay(t, "just ahead of it", two, 2, ints(2), runs(0, 3, 1, 2, 0, 4), ints(9, 5))
	wantPlay(t, "all anew", two, 0, ints(5), runs(0, 3, 1, 2, 0, 7), ints(12, 5))
	// While it is stopped, faults are nothing to it.
	wantPlay(t, "the first tick of the other", two, 2, ints(3), runs(0, 3, 1, 3, 0, 3), ints(9, 6))
	wantPlay(t, "the last tick of the other", two, 2, ints(4), runs(0, 3, 1, 4, 0, 3), ints(10, 7))
	wantPlay(t, "the last tick of the other, all anew", two, 0, ints(4), runs(0, 3, 1, 4, 0, 3), ints(10, 7))
	wantPlay(t, "of both", two, 3, ints(3, 7), runs(0, 3, 1, 3, 0, 1, 0, 1, 0, 3), ints(11, 6))
	wantPlay(t, "ahead of being stopped and behind it", jobs(by(1, 0, 4), by(2, 3, 1)), 2, ints(1, 6), runs(0, 3, 1, 1, 0, 5, -1, 1), ints(9, 4))
	// A checkpoint just when it is stopped.
	wantPlay(t, "just stopped", jobs(by(1, 0, 4), by(2, 2, 1)), 2, ints(3), runs(0, 2, 1, 1, 0, 3), ints(6, 3))
	// What it does ahead of being stopped and behind it makes one step.
	wantPlay(t, "a step in two pieces", jobs(by(1, 0, 4), by(2, 1, 1), by(2, 3, 1)), 3, ints(5), runs(0, 1, 1, 1, 0, 1, 2, 1, 0, 3), ints(7, 2, 4))
	wantPlay(t, "a step in two pieces, just ahead", jobs(by(1, 0, 4), by(2, 1, 1), by(2, 3, 1)), 3, ints(4), runs(0, 1, 1, 1, 0, 1, 2, 1, 0, 5), ints(9, 2, 4))
	// One that comes while work is done anew.
	wantPlay(t, "stopped while it is done anew", jobs(by(1, 0, 3), by(2, 4, 1)), 0, ints(2), runs(0, 4, 1, 1, 0, 2), ints(7, 5))
	wantPlay(t, "one of less P has to wait", jobs(by(2, 0, 3), by(1, 1, 1)), 0, ints(2), runs(0, 6, 1, 1), ints(6, 7))
	// A job of which a fault strikes the first tick just as it comes.
	wantPlay(t, "the first tick, and it stops another", jobs(by(1, 0, 2), by(2, 1, 1)), 0, ints(1), ints(0, 1, 1, 0), ints(4, 3))
}

// TestPlayWhoGoesFirst: as chapter 8's Play says, also behind faults.
func TestPlayWhoGoesFirst(t *testing.T) {
	for _, c := range []struct {
		what      string
		jobs      []api.Job
		ran, ends []int
	}{
		{"the greatest P", jobs(by(1, 0, 2), by(3, 0, 2), by(2, 0, 2)), runs(1, 4, 2, 2, 0, 2, -1, 1), ints(8, 4, 6)},
		{"the same P, the least At", jobs(by(5, 1, 2), by(5, 0, 2)), runs(1, 4, 0, 2), ints(6, 4)},
		{"the same P and At, the first one", jobs(by(5, 0, 2), by(5, 0, 1), by(5, 0, 1)), runs(0, 4, 1, 1, 2, 1), ints(4, 5, 6)},
		{"the same P, one that came as it was undone", jobs(by(5, 0, 3), by(5, 1, 1)), runs(0, 5, 1, 1), ints(5, 6)},
		{"Due isn't asked", jobs(api.Job{C: 2, Due: 9, P: 1}, api.Job{C: 2, Due: 1, P: 1}), runs(0, 4, 1, 2), ints(4, 6)},
		{"the Task isn't asked", jobs(api.Job{Task: 9, C: 2, P: 1}, api.Job{Task: -1, C: 2, P: 1}), runs(0, 4, 1, 2), ints(4, 6)},
		{"as far apart as may be", jobs(by(math.MinInt, 0, 1), by(math.MaxInt, 0, 2), by(0, 0, 1)), runs(1, 4, 2, 1, 0, 1), ints(6, 4, 5)},
		{"late, and then done", jobs(api.Job{C: 3, Due: 4, P: 1}), runs(0, 5, -1, 2), ints(5)},
		{"late when it comes, and then done", jobs(api.Job{At: 1, C: 2, Due: 0, P: 1}), runs(-1, 1, 0, 3), ints(4)},
		{"nobody there between", jobs(by(1, 0, 2), by(1, 6, 1)), ints(0, 0, 0, 0, -1, -1, 1, -1), ints(4, 7)},
	} {
		wantPlay(t, c.what, c.jobs, 0, ints(1), c.ran, c.ends)
	}
	jobs := jobs(api.Job{C: 3, Due: 4, P: 1}, api.Job{C: 1, Due: 9, P: 0})
	p, _ := redo.Play(jobs, 0, ints(1), 9)
	if late, f := sched.Late(jobs, p); f != (api.Fault{}) || !slices.Equal(late, ints(0)) {
		t.Errorf("late: %v %v", late, f)
	}
}

func TestPlayRanges(t *testing.T) {
	l := jobs(by(1, 0, 2))
	for _, step := range []int{0, 1, 2, api.MaxTime - 1, api.MaxTime} {
		wantPlay(t, "a step", l, step, nil, ints(0, 0, -1), ints(2))
		wantPlay(t, "all ticks", l, step, nil, runs(0, 2, -1, api.MaxUntil-2), ints(2))
		for _, until := range []int{-1, api.MaxUntil + 1, math.MinInt, math.MaxInt} {
			wantNoPlay(t, "until", l, step, nil, until, fault(api.ErrRange, 0))
		}
	}
	for _, step := range []int{-1, api.MaxTime + 1, math.MinInt, math.MaxInt} {
		for _, until := range []int{0, 1, api.MaxUntil, -1, api.MaxUntil + 1} {
			wantNoPlay(t, "a step", l, step, nil, until, fault(api.ErrRange, 0))
		}
	}
}

func TestPlayHowManyFaults(t *testing.T) {
	l := jobs(by(1, 0, 3))
	all := every(api.MaxJobs, 0, 1)
	wantPlay(t, "as many as may be", l, 0, all, runs(0, api.MaxJobs+3, -1, 1), ints(api.MaxJobs+3))
	wantPlay(t, "as many as may be, apart", l, 1, every(api.MaxJobs, 1, 5), runs(0, 4, -1, api.MaxUntil-4), ints(4))
	wantPlay(t, "as many as may be, the last one in the last tick", jobs(by(1, api.MaxUntil-2, 1)), 0,
		every(api.MaxJobs, api.MaxUntil-api.MaxJobs, 1), runs(-1, api.MaxUntil-2, 0, 2), none(1))
	wantNoPlay(t, "one too many", l, 0, every(api.MaxJobs+1, 0, 1), 9, fault(api.ErrMany, 0))
	wantNoPlay(t, "one too many, none of them in a tick", l, 0, every(api.MaxJobs+1, -9000, 1), 9, fault(api.ErrMany, 0))
	wantNoPlay(t, "one too many, not in order", l, 0, make([]int, api.MaxJobs+1), 9, fault(api.ErrMany, 0))
	wantNoPlay(t, "not in order", l, 0, make([]int, api.MaxJobs), 9, fault(api.ErrOrder, 1))
	last := slices.Clone(all)
	last[api.MaxJobs-1]--
	wantNoPlay(t, "the last one as the one ahead", l, 0, last, 9, fault(api.ErrOrder, api.MaxJobs-1))
	last[api.MaxJobs-1]--
	wantNoPlay(t, "the last one below the one ahead", l, 0, last, 9, fault(api.ErrOrder, api.MaxJobs-1))
}

func TestPlayFaultsInOrder(t *testing.T) {
	l := jobs(by(1, 0, 3))
	for _, c := range []struct {
		what   string
		faults []int
		at     int // -1: in order
	}{
		{"one", ints(5), -1},
		{"one below 0", ints(-5), -1},
		{"rising", ints(3, 4), -1},
		{"the same", ints(3, 3), 1},
		{"falling", ints(4, 3), 1},
		{"far falling", ints(math.MaxInt, math.MinInt), 1},
		{"far rising", ints(math.MinInt, math.MaxInt), -1},
		{"at both ends", ints(math.MinInt, math.MinInt+1, -1, 0, math.MaxInt-1, math.MaxInt), -1},
		{"the same below 0", ints(-4, -4), 1},
		{"falling below 0", ints(-4, -5, 3), 1},
		{"the same behind until", ints(3, 900, 900), 2},
		{"falling behind until", ints(3, 900, 899, 1), 2},
		{"the last one", ints(1, 2, 3, 4, 4), 4},
		{"below the one ahead, above the first one", ints(1, 7, 5), 2},
		{"the first one of two", ints(1, 2, 2, 5, 4), 2},
	} {
		for _, step := range []int{0, 1, api.MaxTime} {
			if c.at >= 0 {
				wantNoPlay(t, c.what, l, step, c.faults, 9, fault(api.ErrOrder, c.at))
				wantNoPlay(t, c.what+", no ticks", l, step, c.faults, 0, fault(api.ErrOrder, c.at))
				wantNoPlay(t, c.what+", no jobs", nil, step, c.faults, 9, fault(api.ErrOrder, c.at))
			} else if _, f := redo.Play(l, step, c.faults, 9); f != (api.Fault{}) {
				t.Errorf("%s: %v", c.what, f)
			}
		}
	}
}

// TestPlayOrderOfFaults: the jobs, then the ranges, then how many faults, then their order.
func TestPlayOrderOfFaults(t *testing.T) {
	good, tooMany, mixed := many(3), every(api.MaxJobs+1, 0, -1), ints(1, 1)
	bad := []struct {
		jobs []api.Job
		want api.Fault
	}{
		{many(api.MaxJobs + 1), fault(api.ErrMany, 0)},
		{make([]api.Job, api.MaxJobs+1), fault(api.ErrMany, 0)},
		{changed(good, 2, func(j *api.Job) { j.C = 0 }), fault(api.ErrRange, 2)},
		{changed(good, 1, func(j *api.Job) { j.C = api.MaxTime + 1 }), fault(api.ErrRange, 1)},
		{changed(good, 2, func(j *api.Job) { j.At = -1 }), fault(api.ErrRange, 2)},
		{changed(good, 1, func(j *api.Job) { j.At = lastAt + 1 }), fault(api.ErrRange, 1)},
		{changed(good, 1, func(j *api.Job) { j.Due = -1 }), fault(api.ErrRange, 1)},
		{changed(good, 2, func(j *api.Job) { j.Due = lastDue + 1 }), fault(api.ErrRange, 2)},
		{changed(many(api.MaxJobs), api.MaxJobs-1, func(j *api.Job) { j.C = 0 }), fault(api.ErrRange, api.MaxJobs-1)},
	}
	for _, step := range []int{0, -1, api.MaxTime + 1} {
		for _, until := range []int{9, -1, api.MaxUntil + 1} {
			for _, faults := range [][]int{nil, tooMany, mixed} {
				for _, b := range bad {
					wantNoPlay(t, "jobs", b.jobs, step, faults, until, b.want)
				}
				if step != 0 || until != 9 {
					wantNoPlay(t, "ranges", good, step, faults, until, fault(api.ErrRange, 0))
				}
			}
		}
	}
	wantNoPlay(t, "how many", good, 0, tooMany, 9, fault(api.ErrMany, 0))
	wantNoPlay(t, "in order", good, 0, mixed, 9, fault(api.ErrOrder, 1))
}

// TestPlayWithoutFaults: as chapter 8's Play, whatever the step; so it is with faults in other ticks.
func TestPlayWithoutFaults(t *testing.T) {
	m := newMaker(174)
	for range 3000 {
		l, until := m.jobs(9, m.within(1, 20)), m.Intn(40)
		want, _ := sched.Play(l, api.Fixed, true, until)
		var idle []int
		for tick, who := range want.Runs {
			if who < 0 {
				idle = append(idle, tick)
			}
		}
		for _, faults := range [][]int{nil, append(ints(-2, -1), append(idle, until, until+1)...)} {
			wantPlay(t, "without faults", l, m.Intn(8), faults, want.Runs, want.Ends)
		}
	}
	full := many(api.MaxJobs)
	want, _ := sched.Play(full, api.Fixed, true, api.MaxUntil)
	wantPlay(t, "many", full, 3, nil, want.Runs, want.Ends)
}

// resumed counts in who ran the faults that struck a job just as it went on behind another one.
func resumed(ran, faults []int) int {
	n := 0
	for tick, who := range ran {
		if tick > 0 && who >= 0 && ran[tick-1] != who && slices.Contains(ran[:tick], who) && slices.Contains(faults, tick) {
			n++
		}
	}
	return n
}

// TestPlayAnotherWay: what is played is what the rules say word by word.
func TestPlayAnotherWay(t *testing.T) {
	m := newMaker(175)
	struck, goesOn, open := 0, 0, 0
	for range 30000 {
		l, until := m.jobs(m.one(1, 4, 9), m.within(1, 14)), m.Intn(50)
		step := m.one(0, 1, 2, 3, m.Intn(8))
		faults := m.faults(m.one(1, 1, 2, 3, 5, 9), until+3)
		if m.Intn(2) == 0 {
			faults = slices.DeleteFunc(faults, func(int) bool { return m.Intn(3) == 0 })
		}
		if m.Intn(4) == 0 {
			faults = append(ints(-m.within(1, 9)), faults...)
		}
		ran, ends := otherPlay(l, step, faults, until)
		wantPlay(t, "made", l, step, faults, ran, ends)
		goesOn += resumed(ran, faults)
		without, _ := sched.Play(l, api.Fixed, true, until)
		if !slices.Equal(without.Ends, ends) {
			struck++
		}
		if slices.Contains(ends, -1) {
			open++
		}
	}
	if min(struck, open) < 4000 || goesOn < 500 {
		t.Errorf("%d of which faults change the ends, %d with jobs that aren't done, %d jobs struck as they go on", struck, open, goesOn)
	}
}

// eachPair calls with all pairs of jobs with few numbers.
func eachPair(call func(l []api.Job)) {
	for p := range 3 {
		for at := range 4 {
			for c := range 4 {
				for d := range 3 {
					call(jobs(by(1, 0, 1+c), by(p, at, 1+d)))
				}
			}
		}
	}
}

// TestPlayShort: all pairs of jobs with few numbers, with all faults in seven ticks.
func TestPlayShort(t *testing.T) {
	const ticks = 7
	eachPair(func(l []api.Job) {
		for which := range 1 << ticks {
			var faults []int
			for tick := range ticks {
				if which>>tick&1 == 1 {
					faults = append(faults, tick)
				}
			}
			for step := range 5 {
				ran, ends := otherPlay(l, step, faults, 15)
				wantPlay(t, "short", l, step, faults, ran, ends)
			}
		}
	})
}

// TestPlayMany: as many jobs and faults as may be, in as many ticks as may be.
func TestPlayMany(t *testing.T) {
	l := slices.Repeat(jobs(by(3, 0, 3)), api.MaxJobs)
	// Each is struck once: in its first tick, or its second one.
	var ran, ends []int
	for i := range api.MaxJobs {
		ran = append(ran, i, i, i, i)
		ends = append(ends, 4*i+4)
	}
	wantPlay(t, "in the first tick of each", l, 0, every(api.MaxJobs, 0, 4), ran, ends)
	wantPlay(t, "in the second tick of each, a step of a tick", l, 1, every(api.MaxJobs, 1, 4), ran, ends)
	wantPlay(t, "in the third tick of each, a step of two", l, 2, every(api.MaxJobs, 2, 4), ran, ends)
	// With five ticks each all are played just to the end.
	ran, ends = nil, nil
	for i := range api.MaxJobs {
		ran = append(ran, i, i, i, i, i)
		ends = append(ends, 5*i+5)
	}
	wantPlay(t, "in the second tick of each", l, 0, every(api.MaxJobs, 1, 5), ran, ends)
	wantPlay(t, "in the second tick of each, a step of two", l, 2, every(api.MaxJobs, 1, 5), ran, ends)
}

// TestPlayBeginning: more ticks change nothing in those ahead of them.
func TestPlayBeginning(t *testing.T) {
	m := newMaker(176)
	for range 200 {
		l, step, faults := m.jobs(6, 14), m.Intn(5), m.faults(m.within(1, 6), 40)
		whole, _ := redo.Play(l, step, faults, 40)
		for until := range 40 {
			ends := none(len(l))
			for i, end := range whole.Ends {
				if end <= until {
					ends[i] = end
				}
			}
			wantPlay(t, "the beginning", l, step, faults, whole.Runs[:until], ends)
		}
	}
}

// roomy is a copy of a list that has spare room behind it, and all of that.
func roomy[T any](l []T, spare T) (list, whole []T) {
	whole = append(slices.Clone(l), spare, spare, spare)
	return whole[:len(l)], whole
}

// TestMemory: what is handed in isn't changed, neither what is behind it, and isn't kept; what is answered is new.
func TestMemory(t *testing.T) {
	l, allJobs := roomy(jobs(by(1, 4, 3), by(2, 0, 3), by(1, 1, 2)), api.Job{C: 77})
	faults, allFaults := roomy(ints(-1, 1, 5, 90), 55)
	before := fmt.Sprint(allJobs, allFaults)
	var first string
	for i := range 3 {
		p, f := redo.Play(l, 2, faults, 20)
		answer := fmt.Sprint(p, f)
		if i == 0 {
			first = answer
		}
		if after := fmt.Sprint(allJobs, allFaults); answer != first || after != before {
			t.Fatalf("%s, want %s; %s, want %s", answer, first, after, before)
		}
		// No list of the answer shares with the other one, nor with what is handed in.
		clear(p.Runs[:cap(p.Runs)])
		if q := fmt.Sprint(p.Ends); q != "[11 5 8]" {
			t.Fatalf("shared: %s", q)
		}
		clear(p.Ends[:cap(p.Ends)])
	}
	p, f := redo.Play(l, 2, faults, 20)
	clear(allJobs)
	clear(allFaults)
	if answer := fmt.Sprint(p, f); answer != first {
		t.Errorf("kept: %s, want %s", answer, first)
	}
}

// TestAnything: no call panics, and every call ends, whatever it is given; with a fault there is nothing beside it.
func TestAnything(t *testing.T) {
	m := newMaker(177)
	wild := func() int {
		return m.one(0, 1, 2, 9, -1, api.MaxTime, api.MaxTime+1, api.MaxUntil, api.MaxUntil+1, math.MinInt, math.MaxInt, int(m.Uint64()))
	}
	seldom := func(n int) int {
		if m.Intn(25) == 0 {
			return wild()
		}
		return n
	}
	seen := map[api.Errno]int{}
	for range 20000 {
		l := m.jobs(5, 20)
		for i := range l {
			l[i] = api.Job{Task: wild(), At: seldom(l[i].At), C: seldom(l[i].C), Due: seldom(l[i].Due), P: wild()}
		}
		faults := m.faults(m.within(1, 9), 40)
		for i := range faults {
			faults[i] = seldom(faults[i])
		}
		step, until := seldom(m.Intn(5)), seldom(m.Intn(40))
		want := sched.Check(l)
		if want.Code == api.OK {
			want = otherCheck(step, faults, until)
		}
		seen[want.Code]++
		p, f := redo.Play(l, step, faults, until)
		if f != want || f.Code != api.OK && (p.Runs != nil || p.Ends != nil) || f.Code == api.OK && (len(p.Runs) != until || len(p.Ends) != len(l)) {
			t.Fatalf("%v %v, want %v (%v %d %v %d)", p, f, want, l, step, faults, until)
		}
		set := m.set(m.within(1, 9), 30, 30)
		for i := range set {
			set[i].C, set[i].T, set[i].D, set[i].J = seldom(set[i].C), seldom(set[i].T), seldom(set[i].D), seldom(set[i].J)
		}
		if r, f := redo.Response(set, seldom(0), seldom(20), step); (f.Code == api.OK) != (r > 0) || r < 0 {
			t.Fatalf("%d %v (%v)", r, f, set)
		}
	}
	if seen[api.OK] < 3000 || seen[api.ErrRange] < 2000 || seen[api.ErrOrder] < 2000 {
		t.Errorf("%v", seen)
	}
}
