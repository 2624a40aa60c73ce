package locks_test

import (
	"slices"
	"testing"

	"punctual/api"
	"punctual/locks"
)

// heldUp is in how many ticks, while a job is there, one with a lesser P runs.
func heldUp(jobs []api.Locked, i int, h locks.Held) int {
	n := 0
	for now, who := range h.Runs {
		there := jobs[i].At <= now && (h.Ends[i] < 0 || now < h.Ends[i])
		if there && who >= 0 && jobs[who].P < jobs[i].P {
			n++
		}
	}
	return n
}

// longestBelow is the greatest Longest of the jobs with a lesser P.
func longestBelow(t *testing.T, jobs []api.Locked, p int) int {
	longest := 0
	for _, j := range jobs {
		n, f := locks.Longest(j.Acts)
		if f != (api.Fault{}) {
			t.Fatal(f)
		}
		if j.P < p {
			longest = max(longest, n)
		}
	}
	return longest
}

// promise counts of how many lists P11.4 was seen to hold, how many jobs were held up, and how many as long as may be.
type promise struct{ seen, held, just int }

// wantPromise: does P11.4 hold of jobs in so many ticks?
func (s *promise) wantPromise(t *testing.T, what string, jobs []api.Locked, until int) {
	t.Helper()
	h, f := locks.Play(jobs, api.Ceiling, until)
	if f != (api.Fault{}) || h.Stuck || slices.ContainsFunc(h.Waits, func(n int) bool { return n != 0 }) {
		t.Errorf("%s: some wait: %v %v (%v)", what, h, f, jobs)
	}
	s.seen++
	for i, j := range jobs {
		n, most := heldUp(jobs, i, h), longestBelow(t, jobs, j.P)
		if n > most {
			t.Errorf("%s: %d is held up for %d ticks, of %d: %v (%v)", what, i, n, most, h, jobs)
		}
		if n > 0 {
			s.held++
		}
		// The tick in which the lock was taken lies ahead of At, or the job would have gone first: all but that one may hold it up.
		if n > 0 && n == most-1 {
			s.just++
		}
	}
}

// TestFollowsExamples: as long as may be, and that the other protocols don't promise it.
func TestFollowsExamples(t *testing.T) {
	var s promise
	just := []api.Locked{job(0, 1, "t0 w9 g0"), job(0, 3, "t0 w1 g0"), job(0, 2, "w3")}
	s.wantPromise(t, "all together: nobody is held up", just, 30)
	just[1].At, just[2].At = 1, 1
	s.wantPromise(t, "as long as may be", just, 30)
	if h, _ := locks.Play(just, api.Ceiling, 30); heldUp(just, 1, h) != 8 || heldUp(just, 2, h) != 8 {
		t.Errorf("as long as may be: %v", h)
	}
	for _, c := range []struct {
		protocol, want int
	}{{api.Plain, 11}, {api.Inherit, 8}, {api.Ceiling, 8}} {
		h, _ := locks.Play(just, c.protocol, 30)
		if n := h.Ends[1] - 2; n != c.want {
			t.Errorf("held up by %d: %d, want %d", c.protocol, n, c.want)
		}
	}
	// Two locks that others hold: by Inherit one is held up twice.
	twice := []api.Locked{job(0, 1, "t0 w5 g0"), job(1, 2, "t1 w5 g1"), job(2, 9, "t0 w1 g0 t1 w1 g1")}
	s.wantPromise(t, "two locks", twice, 30)
	if h, _ := locks.Play(twice, api.Inherit, 30); heldUp(twice, 2, h) != 8 {
		t.Errorf("by Inherit twice: %v", h)
	}
	if h, _ := locks.Play(twice, api.Ceiling, 30); heldUp(twice, 2, h) != 3 {
		t.Errorf("by Ceiling once: %v", h)
	}
}

// TestFollowsMade: over many made jobs; by the other protocols the same jobs break each part of it.
func TestFollowsMade(t *testing.T) {
	m := newMaker(21)
	var s promise
	waits, longer := 0, 0
	for range 20000 {
		jobs := m.jobs(m.one(3, 6, 12), m.one(2, 7, 20))
		until := m.one(m.Intn(10), 20, 80)
		s.wantPromise(t, "made", jobs, until)
		for _, protocol := range []int{api.Plain, api.Inherit} {
			h, _ := locks.Play(jobs, protocol, until)
			for i, j := range jobs {
				if h.Waits[i] > 0 {
					waits++
				}
				if heldUp(jobs, i, h) > longestBelow(t, jobs, j.P) {
					longer++
				}
			}
		}
	}
	if s.held < 2000 || s.just < 100 || waits < 1000 || longer < 20 {
		t.Errorf("%d held up, %d as long as may be; by other protocols %d wait, %d are held up for longer", s.held, s.just, waits, longer)
	}
}

// TestFollowsMany: many jobs with many acts.
func TestFollowsMany(t *testing.T) {
	m := newMaker(22)
	var s promise
	for range 30 {
		var jobs []api.Locked
		for range m.one(20, 60, 100) {
			jobs = append(jobs, api.Locked{At: m.Intn(300), P: m.Intn(m.one(5, 1001)), Acts: m.acts(m.one(5, 30, 60), 4)})
		}
		s.wantPromise(t, "many", jobs, m.one(100, 1000, 8000))
	}
	if s.held < 100 {
		t.Errorf("%d held up", s.held)
	}
}

// TestFollowsShort: of all short lists of short jobs.
func TestFollowsShort(t *testing.T) {
	var s promise
	see := func(jobs []api.Locked) { s.wantPromise(t, "short", jobs, 8) }
	eachShort(kinds(3, 3, 4, 1), 2, see)
	eachShort(kinds(2, 2, 5, 2), 2, see)
	eachShort(kinds(4, 2, 6, 1), 2, see)
	eachShort(kinds(2, 3, 3, 1), 3, see)
	if s.seen < 500000 || s.held < 5000 || s.just < 2000 {
		t.Errorf("seen: %d, %d held up, %d as long as may be", s.seen, s.held, s.just)
	}
}
