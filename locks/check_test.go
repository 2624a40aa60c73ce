package locks_test

import (
	"fmt"
	"math"
	"slices"
	"testing"

	"punctual/api"
	"punctual/locks"
)

func TestCheck(t *testing.T) {
	for _, c := range []struct {
		acts string
		want api.Fault
	}{
		{"", api.Fault{}},
		{"w1", api.Fault{}},
		{"w1 w2 w3", api.Fault{}},
		{"w1 t0 w3 g0", api.Fault{}},
		{"t0 g0", api.Fault{}},
		{"t3 g3", api.Fault{}},
		{"t0 g0 t0 g0", api.Fault{}},
		{"t0 t1 g1 g0", api.Fault{}},
		{"t3 t1 g1 t1 w4 g1 g3 t0 g0", api.Fault{}},
		{"t0 t1 t2 t3 g3 g2 g1 g0", api.Fault{}},
		{"t3 t0 t2 t1 g1 g2 g0 g3", api.Fault{}},
		// A lock that is held already.
		{"t0 t0", fault(api.ErrTwice, 1)},
		{"t0 t0 g0 g0", fault(api.ErrTwice, 1)},
		{"t3 w1 t3", fault(api.ErrTwice, 2)},
		{"t0 t1 t0", fault(api.ErrTwice, 2)},
		{"t0 t1 t2 g2 t1", fault(api.ErrTwice, 4)},
		{"t0 t1 t2 t3 t3", fault(api.ErrTwice, 4)},
		// A lock that isn't held, or wasn't taken last.
		{"g0", fault(api.ErrLock, 0)},
		{"g3", fault(api.ErrLock, 0)},
		{"w1 g0", fault(api.ErrLock, 1)},
		{"t0 g0 g0", fault(api.ErrLock, 2)},
		{"t0 g1", fault(api.ErrLock, 1)},
		{"t0 t1 g1 g1", fault(api.ErrLock, 3)},
		{"t0 t1 g0 g1", fault(api.ErrLock, 2)},
		{"t1 t0 g1 g0", fault(api.ErrLock, 2)},
		{"t0 t1 t2 g2 g0 g1", fault(api.ErrLock, 4)},
		{"t0 t1 t2 g0", fault(api.ErrLock, 3)},
		// Any number is asked of Give only whether it is that lock.
		{"g-1", fault(api.ErrLock, 0)},
		{"g4", fault(api.ErrLock, 0)},
		{"t0 g-1", fault(api.ErrLock, 1)},
		{"t3 g4", fault(api.ErrLock, 1)},
		// Locks that are held at the end.
		{"t0", fault(api.ErrLock, 1)},
		{"t0 w5", fault(api.ErrLock, 2)},
		{"t0 t1 g1", fault(api.ErrLock, 3)},
		{"t0 g0 t0", fault(api.ErrLock, 3)},
		{"t3 t2 t1 t0", fault(api.ErrLock, 4)},
		{"w1 w1 t2 w1 w1", fault(api.ErrLock, 5)},
		// The first one, and what is held at the end behind all.
		{"t0 ?0", fault(api.ErrOp, 1)},
		{"t0 w0", fault(api.ErrRange, 1)},
		{"t0 w1 w1001 t0", fault(api.ErrRange, 2)},
		{"t0 t0 w0 ?0", fault(api.ErrTwice, 1)},
		{"w0 ?0 g0", fault(api.ErrRange, 0)},
		{"?0 w0 g0", fault(api.ErrOp, 0)},
		{"g0 w0 ?0", fault(api.ErrLock, 0)},
		{"t4 t4", fault(api.ErrRange, 0)},
	} {
		wantCheck(t, c.acts, do(c.acts), c.want)
	}
}

// TestCheckRanges: both ends of each range, behind some acts that nothing is wrong with.
func TestCheckRanges(t *testing.T) {
	for _, c := range []struct {
		act  api.Act
		code api.Errno
	}{
		{work(-1), api.ErrRange}, {work(0), api.ErrRange}, {work(1), api.OK}, {work(2), api.OK},
		{work(api.MaxWork - 1), api.OK}, {work(api.MaxWork), api.OK}, {work(api.MaxWork + 1), api.ErrRange},
		{work(math.MinInt), api.ErrRange}, {work(math.MaxInt), api.ErrRange},
		{take(-1), api.ErrRange}, {take(4), api.ErrRange}, {take(5), api.ErrRange}, {take(math.MinInt), api.ErrRange}, {take(math.MaxInt), api.ErrRange},
		{give(-1), api.ErrLock}, {give(0), api.ErrLock}, {give(3), api.ErrLock}, {give(4), api.ErrLock}, {give(math.MinInt), api.ErrLock}, {give(math.MaxInt), api.ErrLock},
		{api.Act{}, api.ErrOp}, {api.Act{Do: 4}, api.ErrOp}, {api.Act{Do: -1}, api.ErrOp}, {api.Act{Do: 0, N: 1}, api.ErrOp}, {api.Act{Do: 4, N: 1}, api.ErrOp},
		{api.Act{Do: math.MinInt, N: 1}, api.ErrOp}, {api.Act{Do: math.MaxInt, N: 1}, api.ErrOp}, {api.Act{Do: 5, N: -9}, api.ErrOp},
	} {
		for _, ahead := range []string{"", "w1", "t1 g1", "w1 t0 w2 t1 g1 g0"} {
			want := api.Fault{}
			if c.code != api.OK {
				want = fault(c.code, len(do(ahead)))
			}
			wantCheck(t, "ranges", append(do(ahead), c.act, work(1)), want)
		}
	}
	for lock := range 4 {
		wantCheck(t, "each lock", []api.Act{take(lock), give(lock)}, api.Fault{})
	}
}

func TestCheckHowMany(t *testing.T) {
	wantCheck(t, "none", nil, api.Fault{})
	wantCheck(t, "none", []api.Act{}, api.Fault{})
	several := func(n int, a ...api.Act) []api.Act { return slices.Repeat(a, n) }
	wantCheck(t, "as many as may be", several(200, work(1)), api.Fault{})
	wantCheck(t, "as many as may be", several(200, work(api.MaxWork)), api.Fault{})
	wantCheck(t, "as many as may be", several(100, take(2), give(2)), api.Fault{})
	wantCheck(t, "one too many", several(201, work(1)), fault(api.ErrMany, 0))
	wantCheck(t, "one too many", append(several(100, take(2), give(2)), work(1)), fault(api.ErrMany, 0))
	wantCheck(t, "far too many", several(5000, work(1)), fault(api.ErrMany, 0))
	wantCheck(t, "the last one wrong", append(several(199, work(1)), work(0)), fault(api.ErrRange, 199))
	wantCheck(t, "held at the end", append(several(199, work(1)), take(0)), fault(api.ErrLock, 200))
	wantCheck(t, "one too many, and held at the end", append(several(200, work(1)), take(0)), fault(api.ErrMany, 0))
	wantCheck(t, "one too many, and all wrong", make([]api.Act, 201), fault(api.ErrMany, 0))
	wantCheck(t, "all wrong", make([]api.Act, 200), fault(api.ErrOp, 0))
}

// TestCheckShort: all lists of up to five acts.
func TestCheckShort(t *testing.T) {
	all := do("w1 w0 t0 t1 t3 t4 g0 g1 g3 g4 ?1")
	seen := map[api.Errno]int{}
	var longer func(l []api.Act)
	longer = func(l []api.Act) {
		want := otherCheck(l)
		seen[want.Code]++
		if got := locks.Check(l); got != want {
			t.Errorf("Check: %v, want %v (%v)", got, want, l)
		}
		if len(l) < 5 {
			for _, a := range all {
				longer(append(slices.Clip(l), a))
			}
		}
	}
	longer(nil)
	if seen[api.OK] < 50 || len(seen) != 5 {
		t.Errorf("seen: %v", seen)
	}
}

func TestCheckAnotherWay(t *testing.T) {
	m := newMaker(1)
	seen := map[api.Errno]int{}
	for range 10000 {
		acts := m.loose(m.one(4, 12, 40))
		want := otherCheck(acts)
		seen[want.Code]++
		wantCheck(t, "made", acts, want)
	}
	for _, code := range []api.Errno{api.OK, api.ErrOp, api.ErrRange, api.ErrTwice, api.ErrLock} {
		if seen[code] < 100 {
			t.Errorf("seen: %v", seen)
		}
	}
}

// TestJobs: what is wrong with jobs has the job's number, whichever of its acts it is.
func TestJobs(t *testing.T) {
	good := job(3, 4, "w1 t0 w2 g0")
	for _, c := range []struct {
		what string
		job  api.Locked
		code api.Errno
	}{
		{"At", job(-1, 4, "w1"), api.ErrRange}, {"At", job(0, 4, "w1"), api.OK}, {"At", job(api.MaxUntil, 4, "w1"), api.OK}, {"At", job(api.MaxUntil+1, 4, "w1"), api.ErrRange},
		{"At", job(math.MinInt, 4, "w1"), api.ErrRange}, {"At", job(math.MaxInt, 4, "w1"), api.ErrRange},
		{"P", job(3, -1, "w1"), api.ErrRange}, {"P", job(3, 0, "w1"), api.OK}, {"P", job(3, 1000, "w1"), api.OK}, {"P", job(3, 1001, "w1"), api.ErrRange},
		{"P", job(3, math.MinInt, "w1"), api.ErrRange}, {"P", job(3, math.MaxInt, "w1"), api.ErrRange},
		{"the zero value", api.Locked{}, api.OK},
		{"ErrOp", job(3, 4, "w1 ?0"), api.ErrOp},
		{"ErrRange, Work", job(3, 4, "w1 w1 w0"), api.ErrRange},
		{"ErrRange, Take", job(3, 4, "w1 t4"), api.ErrRange},
		{"ErrTwice", job(3, 4, "w1 t1 w1 t1"), api.ErrTwice},
		{"ErrLock", job(3, 4, "w1 w1 w1 w1 w1 g1"), api.ErrLock},
		{"ErrLock at the end", job(3, 4, "w1 t1 w1 w1 w1"), api.ErrLock},
		{"as many acts as may be", api.Locked{Acts: slices.Repeat(do("w1"), 200)}, api.OK},
		{"too many acts", api.Locked{Acts: slices.Repeat(do("w1"), 201)}, api.ErrMany},
		{"At ahead of acts", job(-1, 4, "?0"), api.ErrRange},
		{"P ahead of acts", job(3, 1001, "t0"), api.ErrRange},
		{"At ahead of too many acts", api.Locked{At: -1, Acts: slices.Repeat(do("w1"), 201)}, api.ErrRange},
		{"P ahead of too many acts", api.Locked{P: -1, Acts: slices.Repeat(do("w1"), 201)}, api.ErrRange},
	} {
		for n := range 4 {
			want := api.Fault{}
			if c.code != api.OK {
				want = fault(c.code, n)
			}
			wantJobs(t, c.what, append(slices.Repeat([]api.Locked{good}, n), c.job, good), want)
		}
	}
	wantJobs(t, "the first one of several", []api.Locked{good, job(0, 0, "t0"), job(-1, 0, ""), job(0, 0, "?0")}, fault(api.ErrLock, 1))
	wantJobs(t, "the first one of several", []api.Locked{good, good, job(0, 0, "?0"), job(-1, 0, ""), job(0, 0, "t0")}, fault(api.ErrOp, 2))
	wantJobs(t, "the first one of several", []api.Locked{job(0, 1001, ""), job(0, 0, "?0")}, fault(api.ErrRange, 0))
}

func TestJobsHowMany(t *testing.T) {
	several := func(n int) []api.Locked { return slices.Repeat([]api.Locked{job(1, 2, "t0 w1 g0")}, n) }
	wantJobs(t, "none", nil, api.Fault{})
	wantJobs(t, "none", []api.Locked{}, api.Fault{})
	wantJobs(t, "as many as may be", several(100), api.Fault{})
	wantJobs(t, "one too many", several(101), fault(api.ErrMany, 0))
	wantJobs(t, "far too many", several(3000), fault(api.ErrMany, 0))
	wantJobs(t, "the last one wrong", append(several(99), job(0, 0, "g0")), fault(api.ErrLock, 99))
	wantJobs(t, "one too many, and the first one wrong", append([]api.Locked{job(-1, -1, "?0")}, several(100)...), fault(api.ErrMany, 0))
	for _, protocol := range protocols() {
		if h, f := locks.Play(several(100), protocol, 110); f != (api.Fault{}) || len(h.Ends) != 100 || h.Ends[99] != 101 {
			t.Errorf("as many as may be, by %d: %v", protocol, f)
		}
	}
}

func TestJobsAnotherWay(t *testing.T) {
	m := newMaker(2)
	seen := map[api.Errno]int{}
	for range 5000 {
		jobs := m.jobs(6, 30)
		for i := range jobs {
			switch m.Intn(12) {
			case 0:
				jobs[i].At = m.one(-1, 0, api.MaxUntil, api.MaxUntil+1)
			case 1:
				jobs[i].P = m.one(-1, 0, 1000, 1001)
			case 2:
				jobs[i].Acts = m.loose(9)
			}
		}
		want := otherJobs(jobs)
		seen[want.Code]++
		wantJobs(t, "made", jobs, want)
	}
	if seen[api.OK] < 1000 || seen[api.ErrRange] < 300 || seen[api.ErrLock] < 100 || seen[api.ErrTwice] < 10 || seen[api.ErrOp] < 10 {
		t.Errorf("seen: %v", seen)
	}
}

func wantCeilings(t *testing.T, what string, jobs []api.Locked, want ...int) {
	t.Helper()
	if l, f := locks.Ceilings(jobs); f != (api.Fault{}) || !slices.Equal(l, want) {
		t.Errorf("Ceilings, %s: %v %v, want %v (%v)", what, l, f, want, jobs)
	}
}

func TestCeilings(t *testing.T) {
	wantCeilings(t, "no job", nil, -1, -1, -1, -1)
	wantCeilings(t, "no job", []api.Locked{}, -1, -1, -1, -1)
	wantCeilings(t, "no lock", []api.Locked{job(0, 5, ""), job(0, 6, "w3")}, -1, -1, -1, -1)
	wantCeilings(t, "one", []api.Locked{job(0, 5, "t2 g2")}, -1, -1, 5, -1)
	wantCeilings(t, "P 0 isn't nobody", []api.Locked{job(0, 0, "t0 g0")}, 0, -1, -1, -1)
	wantCeilings(t, "P 1000", []api.Locked{job(0, 1000, "t3 w1 g3")}, -1, -1, -1, 1000)
	wantCeilings(t, "several, rising", []api.Locked{job(0, 1, "t1 g1"), job(0, 2, "t1 g1"), job(0, 3, "t1 g1")}, -1, 3, -1, -1)
	wantCeilings(t, "several, falling", []api.Locked{job(0, 3, "t1 g1"), job(0, 2, "t1 g1"), job(0, 1, "t1 g1")}, -1, 3, -1, -1)
	wantCeilings(t, "several, with one that takes none", []api.Locked{job(0, 3, "t1 g1"), job(0, 7, "w1"), job(0, 4, "w1 t1 g1")}, -1, 4, -1, -1)
	wantCeilings(t, "each another", []api.Locked{job(0, 4, "t3 g3"), job(0, 3, "t2 g2"), job(0, 2, "t1 g1"), job(0, 1, "t0 g0")}, 1, 2, 3, 4)
	wantCeilings(t, "within others", []api.Locked{job(0, 4, "t0 w1 t1 w1 g1 g0"), job(0, 6, "t3 t1 g1 g3 t3 g3")}, 4, 6, -1, 6)
	wantCeilings(t, "all by one", []api.Locked{job(0, 9, "t0 t1 t2 t3 g3 g2 g1 g0")}, 9, 9, 9, 9)
	wantCeilings(t, "whenever they come", []api.Locked{job(0, 1, "t0 g0"), job(api.MaxUntil, 8, "t0 g0")}, 8, -1, -1, -1)
}

func TestCeilingsAnotherWay(t *testing.T) {
	m := newMaker(3)
	for range 3000 {
		jobs := m.jobs(m.one(3, 8, 100), 30)
		wantCeilings(t, "made", jobs, otherCeilings(jobs)...)
	}
}

func wantLongest(t *testing.T, what string, acts []api.Act, want int) {
	t.Helper()
	if n, f := locks.Longest(acts); f != (api.Fault{}) || n != want {
		t.Errorf("Longest, %s: %d %v, want %d (%.300s)", what, n, f, want, fmt.Sprint(acts))
	}
}

func TestLongest(t *testing.T) {
	for acts, want := range map[string]int{
		"":                                       0,
		"w5":                                     0,
		"w5 w6":                                  0,
		"t0 g0":                                  0,
		"w5 t0 g0 w5":                            0,
		"t0 w3 g0":                               3,
		"t3 w1 g3":                               1,
		"w9 t0 w3 g0":                            3,
		"t0 w3 g0 w9":                            3,
		"w9 t0 w3 g0 w9":                         3,
		"t0 w2 w3 g0":                            5,
		"t0 w3 g0 t0 w5 g0":                      5,
		"t0 w5 g0 t0 w3 g0":                      5,
		"t0 w5 g0 w9 t1 w3 g1":                   5,
		"t0 w2 g0 t1 w2 g1 t2 w2 g2":             2,
		"t0 w1 t1 w2 g1 w4 g0":                   7,
		"t0 t1 w2 g1 g0":                         2,
		"t0 w1 t1 g1 w1 g0":                      2,
		"t0 t1 w2 g1 t1 w3 g1 g0":                5,
		"t0 w1 t1 w2 g1 g0 t1 w4 g1":             4,
		"t0 t1 t2 t3 w1 g3 w1 g2 w1 g1 w1 g0 w9": 4,
		"t0 w1000 w1000 g0 w1000":                2000,
	} {
		wantLongest(t, acts, do(acts), want)
	}
	great := slices.Concat(do("t0"), slices.Repeat(do("w1000"), 198), do("g0"))
	wantLongest(t, "the greatest", great, 198000)
}

func TestLongestAnotherWay(t *testing.T) {
	m := newMaker(4)
	seen := map[int]int{}
	for range 10000 {
		acts := m.acts(m.one(5, 12, 30), 1+m.Intn(4))
		want := otherLongest(acts)
		seen[min(want, 5)]++
		wantLongest(t, "made", acts, want)
	}
	for _, acts := range shortActs(8, 2) {
		wantLongest(t, "short", acts, otherLongest(acts))
	}
	if seen[0] < 500 || seen[1] < 100 || seen[5] < 1000 {
		t.Errorf("seen: %v", seen)
	}
}

func TestNothingIsChanged(t *testing.T) {
	m := newMaker(5)
	for range 300 {
		jobs := m.jobs(8, 10)
		room := append(slices.Clone(jobs), job(7, 7, "t0"), job(-4, 9, ""))
		var rooms [][]api.Act
		for i, j := range jobs {
			rooms = append(rooms, append(slices.Clone(j.Acts), work(77), take(3)))
			room[i].Acts = rooms[i][:len(j.Acts)]
		}
		kept := fmt.Sprint(room, rooms)
		given := room[:len(jobs)]
		l, _ := locks.Ceilings(given)
		for i := range l {
			l[i] = -9
		}
		for _, j := range given {
			locks.Check(j.Acts)
			locks.Longest(j.Acts)
		}
		for _, protocol := range protocols() {
			h, _ := locks.Play(given, protocol, 20)
			for _, l := range [][]int{h.Runs, h.Ends, h.Waits} {
				for i := range l {
					l[i] = -9
				}
			}
		}
		if now := fmt.Sprint(room, rooms); now != kept {
			t.Errorf("changed: %s, want %s", now, kept)
		}
	}
}

// TestAnswersAreNew: what is done to a list of an answer is seen in no other list, nor in another answer.
func TestAnswersAreNew(t *testing.T) {
	jobs := []api.Locked{job(0, 1, "w1 t0 w3 g0"), job(2, 3, "t0 w1 g0"), job(2, 2, "w2")}
	for _, protocol := range protocols() {
		want := otherPlay(jobs, protocol, 8)
		h, _ := locks.Play(jobs, protocol, 8)
		again, _ := locks.Play(jobs, protocol, 8)
		lists := []*[]int{&h.Runs, &h.Ends, &h.Waits}
		for i, l := range lists {
			*l = append((*l)[:0], slices.Repeat([]int{50 + i}, cap(*l))...)
		}
		for i, l := range lists {
			if slices.ContainsFunc(*l, func(n int) bool { return n != 50+i }) {
				t.Errorf("list %d shares: %v", i, *l)
			}
		}
		if !sameHeld(again, want) {
			t.Errorf("answers share: %v", again)
		}
		wantPlay(t, "again", jobs, protocol, want)
	}
	l, _ := locks.Ceilings(jobs)
	clear(l[:cap(l)])
	wantCeilings(t, "again", jobs, 3, -1, -1, -1)
}
