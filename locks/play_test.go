package locks_test

import (
	"math"
	"slices"
	"testing"

	"punctual/api"
	"punctual/locks"
)

// TestOfTheDocument: the example of DOC.md, by each protocol.
func TestOfTheDocument(t *testing.T) {
	jobs := []api.Locked{job(0, 1, "w1 t0 w3 g0"), job(2, 2, "t0 w1 g0")}
	ran, ends := ints(0, 0, 0, 0, 1, -1), ints(4, 5)
	wantPlay(t, "the document's", jobs, api.Plain, held(ran, ends, ints(0, 2), false))
	wantPlay(t, "the document's", jobs, api.Inherit, held(ran, ends, ints(0, 2), false))
	wantPlay(t, "the document's", jobs, api.Ceiling, held(ran, ends, ints(0, 0), false))
}

// TestPlayWrong: the protocol is asked behind the jobs, and until behind the protocol.
func TestPlayWrong(t *testing.T) {
	for _, jobs := range [][]api.Locked{nil, {}, {job(0, 1, "w1")}, slices.Repeat([]api.Locked{job(0, 1, "t0 w1 g0")}, 100)} {
		for _, protocol := range []int{0, 4, -1, 5, math.MinInt, math.MaxInt} {
			for _, until := range []int{0, 1, 30, api.MaxUntil, -1, api.MaxUntil + 1, math.MinInt, math.MaxInt} {
				wantNoPlay(t, "no protocol", jobs, protocol, until, fault(api.ErrOp, 0))
			}
		}
		for _, protocol := range protocols() {
			for _, until := range []int{-1, api.MaxUntil + 1, math.MinInt, math.MaxInt} {
				wantNoPlay(t, "until", jobs, protocol, until, fault(api.ErrRange, 0))
			}
			for _, until := range []int{0, 1, api.MaxUntil} {
				if h, f := locks.Play(jobs, protocol, until); f != (api.Fault{}) || len(h.Runs) != until || len(h.Ends) != len(jobs) || len(h.Waits) != len(jobs) {
					t.Errorf("until %d: %d ticks, %d ends, %d waits, %v", until, len(h.Runs), len(h.Ends), len(h.Waits), f)
				}
			}
		}
	}
}

// TestPlayAlike: where the protocol has nothing to say.
func TestPlayAlike(t *testing.T) {
	for _, c := range []struct {
		what      string
		jobs      []api.Locked
		ran, ends []int
	}{
		{"no job, no tick", nil, nil, nil},
		{"no job", []api.Locked{}, runs(-1, 5), nil},
		{"no tick", []api.Locked{job(0, 1, ""), job(0, 2, "w1"), job(0, 3, "t0 g0")}, nil, ints(-1, -1, -1)},
		{"no acts", []api.Locked{job(0, 1, "")}, ints(-1), ints(0)},
		{"no acts, At one below until", []api.Locked{job(3, 1, "")}, runs(-1, 4), ints(3)},
		{"no acts, At just until", []api.Locked{job(3, 1, "")}, runs(-1, 3), ints(-1)},
		{"no acts, a greater P: done while another is in its work", []api.Locked{job(0, 1, "w3"), job(1, 2, "")}, ints(0, 0, 0, -1), ints(3, 1)},
		{"no acts, a lesser P: done when the other is done", []api.Locked{job(0, 2, "w3"), job(1, 1, "")}, ints(0, 0, 0, -1), ints(3, 3)},
		{"no acts, a lesser P: that would be at until", []api.Locked{job(0, 2, "w3"), job(1, 1, "")}, ints(0, 0, 0), ints(3, -1)},
		{"many without acts", []api.Locked{job(2, 1, ""), job(2, 9, ""), job(2, 5, ""), job(1, 5, "")}, runs(-1, 3), ints(2, 2, 2, 1)},
		{"acts that take no time", []api.Locked{job(2, 1, "t0 t1 g1 g0 t0 g0")}, runs(-1, 3), ints(2)},
		{"acts that take no time, At just until", []api.Locked{job(2, 1, "t0 g0")}, runs(-1, 2), ints(-1)},
		{"acts that take no time, beside others", []api.Locked{job(0, 5, "w2"), job(1, 9, "t0 t3 g3 g0"), job(1, 1, "t0 g0"), job(0, 2, "w1")}, ints(0, 0, 3, -1), ints(2, 1, 3, 3)},
		{"work", []api.Locked{job(2, 1, "w3")}, ints(-1, -1, 0, 0, 0, -1), ints(5)},
		{"several pieces of work", []api.Locked{job(0, 1, "w1 w2 w1")}, ints(0, 0, 0, 0, -1), ints(4)},
		{"a greater P goes ahead within work", []api.Locked{job(0, 1, "w2 w2"), job(1, 2, "w1"), job(3, 2, "w1")}, ints(0, 1, 0, 2, 0, 0, -1), ints(6, 2, 4)},
		{"P 0 and P 1000", []api.Locked{job(0, 0, "w1"), job(0, 1000, "w1"), job(0, 999, "w1")}, ints(1, 2, 0, -1), ints(3, 1, 2)},
		{"a Take at the beginning", []api.Locked{job(0, 1, "t0 w1 g0")}, ints(0, -1), ints(1)},
		{"a Take behind work", []api.Locked{job(0, 1, "w1 t0 w1 g0")}, ints(0, 0, -1), ints(2)},
		{"a Take just when another comes, which goes first", []api.Locked{job(0, 1, "w2 t0 w2 g0"), job(2, 2, "t0 w1 g0")}, ints(0, 0, 1, 0, 0, -1), ints(5, 3)},
		{"other locks", []api.Locked{job(0, 1, "t0 w3 g0"), job(1, 2, "t1 w1 g1"), job(2, 3, "t2 t3 w1 g3 g2")}, ints(0, 1, 2, 0, 0, -1), ints(5, 3, 3)},
		{"a Give that another goes ahead of", []api.Locked{job(0, 1, "t0 w2 g0"), job(2, 9, "w3")}, ints(0, 0, 1, 1, 1, -1), ints(5, 5)},
		{"locks one behind the other", []api.Locked{job(0, 2, "t0 w1 g0 t1 w1 g1"), job(0, 1, "t0 w1 g0")}, ints(0, 0, 1, -1), ints(2, 3)},
		// What ends at until, and a tick behind it.
		{"work that ends just at until", []api.Locked{job(0, 1, "w3")}, ints(0, 0, 0), ints(3)},
		{"work that ends a tick behind until", []api.Locked{job(0, 1, "w3")}, ints(0, 0), ints(-1)},
		{"work that ends just at until, and a Give behind it", []api.Locked{job(0, 1, "t0 w3 g0")}, ints(0, 0, 0), ints(-1)},
		{"a Give in the last tick", []api.Locked{job(0, 1, "t0 w3 g0")}, ints(0, 0, 0, -1), ints(3)},
		{"a Give in the last tick, and another works", []api.Locked{job(0, 2, "t0 w3 g0"), job(0, 1, "w1")}, ints(0, 0, 0, 1), ints(3, 4)},
		{"not the last work", []api.Locked{job(0, 1, "w1 w1")}, ints(0), ints(-1)},
		{"At just until", []api.Locked{job(2, 9, "w1"), job(0, 1, "w3")}, ints(1, 1), ints(-1, -1)},
		{"At one below until", []api.Locked{job(1, 9, "w1"), job(0, 1, "w3")}, ints(1, 0), ints(2, -1)},
		{"At beyond until", []api.Locked{job(api.MaxUntil, 9, ""), job(3, 9, "w1"), job(0, 1, "w1")}, ints(2, -1), ints(-1, -1, 1)},
	} {
		for _, protocol := range protocols() {
			wantPlay(t, c.what, c.jobs, protocol, held(c.ran, c.ends, make([]int, len(c.jobs)), false))
		}
	}
}

// TestPlayOrder: of several with the same active priority.
func TestPlayOrder(t *testing.T) {
	for _, c := range []struct {
		what      string
		jobs      []api.Locked
		ran, ends []int
	}{
		{"the first one in the list", []api.Locked{job(0, 1, "w1"), job(0, 1, "w1"), job(0, 1, "w1")}, ints(0, 1, 2), ints(1, 2, 3)},
		{"the least At", []api.Locked{job(2, 1, "w1"), job(1, 1, "w1"), job(0, 2, "w3")}, ints(2, 2, 2, 1, 0), ints(5, 4, 3)},
		{"the least At, then the first one in the list", []api.Locked{job(2, 1, "w1"), job(1, 1, "w1"), job(1, 1, "w1"), job(0, 2, "w3")}, ints(3, 3, 3, 1, 2, 0), ints(6, 4, 5, 3)},
		{"one that has begun runs on", []api.Locked{job(1, 1, "w2"), job(0, 1, "w3")}, ints(1, 1, 1, 0, 0), ints(5, 3)},
		{"one that has begun, and was held up", []api.Locked{job(1, 1, "w2"), job(0, 1, "w3"), job(1, 2, "w1")}, ints(1, 2, 1, 1, 0, 0), ints(6, 4, 2)},
	} {
		for _, protocol := range protocols() {
			wantPlay(t, c.what, c.jobs, protocol, held(c.ran, c.ends, make([]int, len(c.jobs)), false))
		}
	}
	// The ceiling is just the P of the one that comes: one that has begun goes ahead of it.
	jobs := []api.Locked{job(1, 2, "w1"), job(0, 1, "t0 w3 g0 w1"), job(9, 2, "t0 g0")}
	wantPlay(t, "as much as a ceiling", jobs, api.Ceiling, held(ints(1, 1, 1, 0, 1, -1), ints(4, 5, -1), ints(0, 0, 0), false))
	wantPlay(t, "no ceiling", jobs, api.Plain, held(ints(1, 0, 1, 1, 1, -1), ints(2, 5, -1), ints(0, 0, 0), false))
	jobs[0].P = 3
	wantPlay(t, "more than a ceiling", jobs, api.Ceiling, held(ints(1, 0, 1, 1, 1, -1), ints(2, 5, -1), ints(0, 0, 0), false))
	// What is inherited is just the P of another that has begun: of both the least At, wherever they stand.
	early := []api.Locked{job(2, 5, "w1 t1 w1 g1"), job(1, 3, "t0 w4 g0"), job(3, 5, "t0 w1 g0"), job(0, 2, "t1 w2 g1")}
	wantPlay(t, "inherited, the least At", early, api.Inherit, held(ints(3, 1, 0, 3, 0, 1, 1, 1, 2, -1), ints(5, 8, 9, 4), ints(1, 0, 3, 0), false))
	// Of those that a Give lets go on, the one with the least At.
	later := []api.Locked{job(2, 5, "t0 w1 g0"), job(1, 5, "t0 w1 g0"), job(1, 5, "t0 w1 g0"), job(0, 1, "t0 w3 g0")}
	wantPlay(t, "behind a Give", later, api.Plain, held(ints(3, 3, 3, 1, 2, 0, -1), ints(6, 4, 5, 3), ints(1, 2, 2, 0), false))
}

func TestPlayWaits(t *testing.T) {
	for _, c := range []struct {
		what             string
		protocols        []int
		jobs             []api.Locked
		ran, ends, waits []int
	}{
		{"a Take just ahead of another's", ints(api.Plain, api.Inherit),
			[]api.Locked{job(0, 1, "w1 t0 w2 g0"), job(2, 2, "t0 w1 g0")},
			ints(0, 0, 0, 1, -1), ints(3, 4), ints(0, 1)},
		{"a Take just ahead of another's", ints(api.Ceiling),
			[]api.Locked{job(0, 1, "w1 t0 w2 g0"), job(2, 2, "t0 w1 g0")},
			ints(0, 0, 0, 1, -1), ints(3, 4), ints(0, 0)},
		{"a Take behind work", ints(api.Plain, api.Inherit),
			[]api.Locked{job(0, 1, "t0 w3 g0"), job(1, 2, "w1 t0 w1 g0 w1")},
			ints(0, 1, 0, 0, 1, 1, -1), ints(4, 6), ints(0, 2)},
		{"a Take behind work", ints(api.Ceiling),
			[]api.Locked{job(0, 1, "t0 w3 g0"), job(1, 2, "w1 t0 w1 g0 w1")},
			ints(0, 0, 0, 1, 1, 1, -1), ints(3, 6), ints(0, 0)},
		{"one in between goes ahead of the one that holds", ints(api.Plain),
			[]api.Locked{job(0, 1, "t0 w2 g0 w2"), job(1, 3, "t0 w1 g0"), job(1, 2, "w3")},
			ints(0, 2, 2, 2, 0, 1, 0, 0, -1), ints(8, 6, 4), ints(0, 4, 0)},
		{"what is inherited is lost with the Give", ints(api.Inherit),
			[]api.Locked{job(0, 1, "t0 w2 g0 w2"), job(1, 3, "t0 w1 g0"), job(1, 2, "w3")},
			ints(0, 0, 1, 2, 2, 2, 0, 0, -1), ints(8, 3, 6), ints(0, 1, 0)},
		{"one in between that comes while another waits", ints(api.Inherit),
			[]api.Locked{job(0, 1, "t0 w4 g0"), job(1, 3, "t0 w1 g0"), job(2, 2, "w1")},
			ints(0, 0, 0, 0, 1, 2, -1), ints(4, 5, 6), ints(0, 3, 0)},
		{"nothing is inherited before one waits", ints(api.Inherit),
			[]api.Locked{job(0, 1, "t0 w3 g0"), job(1, 3, "w1 t0 w1 g0"), job(1, 2, "w1")},
			ints(0, 1, 0, 0, 1, 2, -1), ints(4, 5, 6), ints(0, 2, 0)},
		{"the greatest of several is inherited", ints(api.Inherit),
			[]api.Locked{job(0, 1, "t0 w3 g0"), job(1, 3, "t0 w1 g0"), job(2, 5, "t0 w1 g0"), job(2, 4, "w1")},
			ints(0, 0, 0, 2, 3, 1, -1), ints(3, 6, 4, 5), ints(0, 2, 1, 0)},
		{"of several locks the greatest is inherited; with the inner one it is lost", ints(api.Inherit),
			[]api.Locked{job(0, 1, "t0 t1 w4 g1 w1 g0"), job(1, 3, "t0 w1 g0"), job(2, 5, "t1 w1 g1"), job(2, 4, "w1")},
			ints(0, 0, 0, 0, 2, 3, 0, 1, -1), ints(7, 8, 5, 6), ints(0, 6, 2, 0)},
		{"one that never goes first doesn't wait", ints(api.Inherit),
			[]api.Locked{job(0, 1, "t0 w3 g0 w1"), job(1, 3, "t0 w2 g0"), job(1, 2, "t0 w1 g0")},
			ints(0, 0, 0, 1, 1, 2, 0, -1), ints(7, 5, 6), ints(0, 2, 0)},
		{"a Give behind which several stop to wait", ints(api.Plain),
			[]api.Locked{job(0, 1, "t0 w3 g0 w1"), job(1, 3, "t0 w2 g0"), job(1, 2, "t0 w1 g0")},
			ints(0, 0, 0, 1, 1, 2, 0, -1), ints(7, 5, 6), ints(0, 2, 2)},
		{"a Give behind which several stop to wait", ints(api.Plain, api.Inherit),
			[]api.Locked{job(0, 1, "t0 w4 g0 w1"), job(3, 4, "t0 w2 g0"), job(1, 2, "t0 w1 g0"), job(2, 3, "t0 w1 g0")},
			ints(0, 0, 0, 0, 1, 1, 3, 2, 0, -1), ints(9, 6, 8, 7), ints(0, 1, 3, 2)},
		{"a Give behind which those for other locks wait on", ints(api.Plain),
			[]api.Locked{job(0, 1, "t0 t1 w2 g1 w2 g0"), job(1, 3, "t0 w1 g0"), job(1, 2, "t1 w1 g1")},
			ints(0, 0, 2, 0, 0, 1, -1), ints(5, 6, 3), ints(0, 4, 1)},
		{"one that stops to wait waits again", ints(api.Plain),
			[]api.Locked{job(0, 1, "t1 w6 g1"), job(1, 2, "t0 w3 g0"), job(2, 4, "t0 t1 w1 g1 g0"), job(2, 3, "t0 w1 g0")},
			ints(0, 1, 1, 1, 0, 0, 0, 0, 0, 2, 3, -1), ints(9, 4, 10, 11), ints(0, 0, 7, 8)},
		{"one waits on while a Give isn't done", ints(api.Plain, api.Inherit),
			[]api.Locked{job(0, 1, "t0 w2 g0"), job(1, 2, "t0 w1 g0"), job(2, 9, "w3")},
			ints(0, 0, 2, 2, 2), ints(-1, -1, 5), ints(0, 4, 0)},
		{"two that wait one behind the other", ints(api.Plain),
			[]api.Locked{job(0, 1, "t0 w3 g0"), job(1, 2, "t1 t0 w1 g0 g1"), job(2, 3, "t1 w1 g1")},
			ints(0, 0, 0, 1, 2, -1), ints(3, 4, 5), ints(0, 2, 2)},
	} {
		for _, protocol := range c.protocols {
			wantPlay(t, c.what, c.jobs, protocol, held(c.ran, c.ends, c.waits, false))
		}
	}
}

// TestPlayChain: each waits for a lock that the next one holds; only the last one can go on, and has the priority of the first one.
func TestPlayChain(t *testing.T) {
	jobs := []api.Locked{
		job(0, 1, "t0 w3 g0"),
		job(1, 2, "t1 w1 t0 w1 g0 g1"),
		job(2, 3, "t2 w1 t1 w1 g1 g2"),
		job(3, 4, "t3 w1 t2 w1 g2 g3"),
		job(5, 9, "t3 w1 g3"),
		job(5, 8, "w2"),
	}
	wantPlay(t, "a chain", jobs, api.Inherit, held(ints(0, 1, 2, 3, 0, 0, 1, 2, 3, 4, 5, 5, -1), ints(6, 7, 8, 9, 10, 12), ints(0, 2, 3, 4, 4, 0), false))
	wantPlay(t, "a chain", jobs, api.Plain, held(ints(0, 1, 2, 3, 0, 5, 5, 0, 1, 2, 3, 4, -1), ints(8, 9, 10, 11, 12, 7), ints(0, 4, 5, 6, 6, 0), false))
	wantPlay(t, "a chain", jobs, api.Ceiling, held(ints(0, 0, 2, 2, 3, 3, 4, 5, 5, 0, 1, 1, -1), ints(10, 12, 4, 6, 7, 9), ints(0, 0, 0, 0, 0, 0), false))
	// Where the one in between has no less, nothing more goes on.
	jobs[2].P, jobs[3].P = 9, 9
	if h, _ := locks.Play(jobs, api.Inherit, 40); !sameHeld(h, otherPlay(jobs, api.Inherit, 40)) {
		t.Errorf("a chain with as much in between: %v", h)
	}
}

// TestPlayCeilings: of all jobs, also of those that never come.
func TestPlayCeilings(t *testing.T) {
	jobs := []api.Locked{job(0, 1, "t0 w3 g0 w1"), job(1, 2, "w1"), job(api.MaxUntil, 3, "t0 g0")}
	wantPlay(t, "one that never comes", jobs, api.Ceiling, held(ints(0, 0, 0, 1, 0, -1), ints(5, 4, -1), ints(0, 0, 0), false))
	wantPlay(t, "one that never comes", jobs, api.Inherit, held(ints(0, 1, 0, 0, 0, -1), ints(5, 2, -1), ints(0, 0, 0), false))
	inner := []api.Locked{job(0, 1, "t0 w1 t1 w2 g1 w1 g0 w1"), job(2, 3, "w1"), job(2, 5, "t1 w1 g1"), job(2, 2, "t0 w1 g0")}
	wantPlay(t, "the greatest of those held", inner, api.Ceiling, held(ints(0, 0, 0, 2, 1, 0, 3, 0, -1), ints(8, 5, 4, 7), ints(0, 0, 0, 0), false))
}

func TestStuck(t *testing.T) {
	cross := []api.Locked{job(0, 1, "t0 w2 t1 w1 g1 g0"), job(1, 2, "t1 w2 t0 w1 g0 g1")}
	with := func(more ...api.Locked) []api.Locked { return append(slices.Clone(cross), more...) }
	for _, protocol := range []int{api.Plain, api.Inherit} {
		for _, c := range []struct {
			what string
			jobs []api.Locked
			want locks.Held
		}{
			{"two", cross, held(ints(0, 1, 1, 0, -1, -1), ints(-1, -1), ints(2, 3), true)},
			{"two, just when both wait", cross, held(ints(0, 1, 1, 0, -1), ints(-1, -1), ints(1, 2), true)},
			{"two, ahead of it", cross, held(ints(0, 1, 1, 0), ints(-1, -1), ints(0, 1), false)},
			{"two, ahead of all", cross, held(nil, ints(-1, -1), ints(0, 0), false)},
			{"a third one is done", with(job(2, 9, "w1")), held(ints(0, 1, 2, 1, 0, -1), ints(-1, -1, 3), ints(1, 2, 0), true)},
			{"a third one isn't done", with(job(0, 0, "w9")), held(ints(0, 1, 1, 0, 2, 2), ints(-1, -1, -1), ints(2, 3, 0), false)},
			{"a third one is just done", with(job(0, 0, "w2")), held(ints(0, 1, 1, 0, 2, 2), ints(-1, -1, 6), ints(2, 3, 0), true)},
			{"a third one would be done at until", with(job(0, 0, "t2 w2 g2")), held(ints(0, 1, 1, 0, 2, 2), ints(-1, -1, -1), ints(2, 3, 0), false)},
			{"a third one waits, too", with(job(0, 0, "t1 g1")), held(ints(0, 1, 1, 0, -1), ints(-1, -1, -1), ints(1, 2, 1), true)},
			{"a third one comes at until", with(job(5, 9, "w1")), held(ints(0, 1, 1, 0, -1), ints(-1, -1, -1), ints(1, 2, 0), true)},
			{"a third one comes behind until", with(job(9, 9, "")), held(ints(0, 1, 1, 0, -1), ints(-1, -1, -1), ints(1, 2, 0), true)},
			{"a third one comes just ahead of until", with(job(4, 9, "w2")), held(ints(0, 1, 1, 0, 2), ints(-1, -1, -1), ints(0, 2, 0), false)},
			{"a third one with the greatest P waits for one of them", with(job(4, 9, "t0 w1 g0")), held(ints(0, 1, 1, 0, -1), ints(-1, -1, -1), ints(1, 2, 1), true)},
		} {
			wantPlay(t, c.what, c.jobs, protocol, c.want)
		}
	}
	wantPlay(t, "two", cross, api.Ceiling, held(ints(0, 0, 0, 1, 1, 1, -1), ints(3, 6), ints(0, 0), false))
}

// TestStuckRings: three and four that wait for one another, beside one with the greatest P that waits for them and one that runs.
func TestStuckRings(t *testing.T) {
	for n := 2; n <= 4; n++ {
		var jobs []api.Locked
		for i := range n {
			jobs = append(jobs, api.Locked{At: i, P: 1 + i, Acts: []api.Act{take(i), work(2), take((i + 1) % n), work(1), give((i + 1) % n), give(i)}})
		}
		jobs = append(jobs, job(20, 50, "t1 w1 g1"), job(30, 5, "w3"))
		for _, protocol := range []int{api.Plain, api.Inherit} {
			h, _ := locks.Play(jobs, protocol, 50)
			if !h.Stuck || !sameHeld(h, otherPlay(jobs, protocol, 50)) || h.Ends[n+1] != 33 || h.Waits[n] != 30 {
				t.Errorf("a ring of %d, by %d: %v", n, protocol, h)
			}
			if h, _ := locks.Play(jobs, protocol, 32); h.Stuck {
				t.Errorf("a ring of %d, by %d, one runs: %v", n, protocol, h)
			}
		}
		h, _ := locks.Play(jobs, api.Ceiling, 50)
		if h.Stuck || slices.Contains(h.Ends, -1) {
			t.Errorf("a ring of %d, by ceilings: %v", n, h)
		}
	}
}

// TestPlayAnotherWay: what is played is what the rules say word by word.
func TestPlayAnotherWay(t *testing.T) {
	m := newMaker(11)
	waits, stuck, differ, undone := 0, 0, 0, 0
	for range 20000 {
		jobs := m.jobs(m.one(4, 6, 10), m.one(2, 7, 14))
		until := m.one(m.Intn(10), 15, 30, 60, 60)
		var ran [][]int
		for _, protocol := range protocols() {
			want := otherPlay(jobs, protocol, until)
			wantPlay(t, "made", jobs, protocol, want)
			ran = append(ran, want.Runs)
			if slices.ContainsFunc(want.Waits, func(n int) bool { return n > 0 }) {
				waits++
			}
			if want.Stuck {
				stuck++
			}
			if slices.Contains(want.Ends, -1) {
				undone++
			}
		}
		if !slices.Equal(ran[0], ran[1]) && !slices.Equal(ran[1], ran[2]) && !slices.Equal(ran[0], ran[2]) {
			differ++
		}
	}
	if waits < 2000 || stuck < 150 || differ < 200 || undone < 5000 {
		t.Errorf("in %d some wait, %d are stuck, in %d some aren't done, %d differ by each protocol", waits, stuck, undone, differ)
	}
}

// kinds are jobs of few numbers with short acts.
func kinds(ats, ps, most, count int) []api.Locked {
	var l []api.Locked
	for _, acts := range shortActs(most, count) {
		for at := range ats {
			for p := range ps {
				l = append(l, api.Locked{At: at, P: p, Acts: acts})
			}
		}
	}
	return l
}

// TestPlayShort: all short lists of short jobs.
func TestPlayShort(t *testing.T) {
	seen, stuck := 0, 0
	see := func(jobs []api.Locked) {
		seen++
		for _, protocol := range protocols() {
			want := otherPlay(jobs, protocol, 7)
			wantPlay(t, "short", jobs, protocol, want)
			if want.Stuck {
				stuck++
			}
		}
	}
	eachShort(kinds(3, 3, 4, 1), 2, see)
	eachShort(kinds(2, 2, 3, 1), 3, see)
	eachShort(kinds(2, 2, 5, 2), 2, see)
	if seen < 150000 || stuck < 10 {
		t.Errorf("seen: %d, %d are stuck", seen, stuck)
	}
}

// TestPlayBeginning: more ticks change nothing in those ahead of them.
func TestPlayBeginning(t *testing.T) {
	m := newMaker(12)
	for range 200 {
		jobs := m.jobs(7, 10)
		for _, protocol := range protocols() {
			whole, _ := locks.Play(jobs, protocol, 40)
			waits := make([]int, len(jobs))
			for until := range 40 {
				h, _ := locks.Play(jobs, protocol, until)
				if !slices.Equal(h.Runs, whole.Runs[:until]) {
					t.Errorf("the beginning: %v, want %v", h.Runs, whole.Runs[:until])
				}
				for i, end := range h.Ends {
					// What takes no time at until isn't played; all else that ends there is.
					if end >= 0 && end != whole.Ends[i] || end < 0 && whole.Ends[i] >= 0 && whole.Ends[i] < until {
						t.Errorf("the beginning: end %d of %d, want %d", i, end, whole.Ends[i])
					}
					if more := h.Waits[i] - waits[i]; more < 0 || more > 1 {
						t.Errorf("the beginning: waits %v behind %v", h.Waits, waits)
					}
				}
				waits = h.Waits
			}
		}
	}
}

// TestPlayMany: as many jobs as may be, with as many acts as may be, in as many ticks as may be.
func TestPlayMany(t *testing.T) {
	m := newMaker(13)
	for _, count := range []int{1, 4} {
		jobs := make([]api.Locked, 100)
		for i := range jobs {
			lock, other := m.Intn(count), m.Intn(count)
			acts := []api.Act{take(lock), work(1), give(lock), work(1), take(other), work(1), give(other), work(1)}
			jobs[i] = api.Locked{At: m.Intn(2000), P: m.one(0, 500, 1000, m.Intn(1001)), Acts: slices.Repeat(acts, 25)}
		}
		for _, protocol := range protocols() {
			h, f := locks.Play(jobs, protocol, api.MaxUntil)
			if f != (api.Fault{}) || len(h.Runs) != api.MaxUntil || h.Stuck {
				t.Errorf("many, by %d: %d ticks, %v", protocol, len(h.Runs), f)
			}
			ran := make([]int, len(jobs))
			for _, who := range h.Runs {
				if who >= 0 {
					ran[who]++
				}
			}
			for i := range jobs {
				if ran[i] != 100 || h.Ends[i] < 100 {
					t.Errorf("many, by %d: %d ran %d ticks and was done at %d", protocol, i, ran[i], h.Ends[i])
				}
			}
		}
	}
}
