package serve_test

import (
	"math"
	"slices"
	"testing"

	"punctual/api"
	"punctual/sched"
	"punctual/serve"
)

// played is what is wanted of a run.
type played struct {
	what   string
	jobs   []api.Job
	s      api.Server
	p      int
	soft   []api.Job
	ran    []int
	ends   []int
	served []int
}

func wantAll(t *testing.T, l []played) {
	t.Helper()
	for _, c := range l {
		wantPlay(t, c.what, c.jobs, c.s, c.p, c.soft, c.ran, c.ends, c.served)
	}
}

func TestPlayPolling(t *testing.T) {
	s := polling(2, 4)
	wantAll(t, []played{
		{"its work ends within its time", nil, s, 5, soft(0, 1, 1, 1), ints(-2, -1, -1, -1, -2, -1), nil, ints(1, 5)},
		{"its work ends within its time, and more comes at the next multiple", nil, s, 5, soft(0, 1, 4, 1), ints(-2, -1, -1, -1, -2, -1), nil, ints(1, 5)},
		{"together", nil, s, 5, soft(0, 1, 0, 2), ints(-2, -2, -1, -1, -2, -1), nil, ints(1, 5)},
		{"while others are there", nil, s, 5, soft(0, 2, 1, 1), ints(-2, -2, -1, -1, -2, -1), nil, ints(2, 5)},
		{"while others are there: its time isn't lost", nil, s, 5, soft(0, 1, 0, 1, 1, 1), ints(-2, -2, -1, -1, -2, -1), nil, ints(1, 2, 5)},
		{"just behind a multiple of P", nil, s, 5, soft(1, 1), runs(-1, 4, -2, 1, -1, 1), nil, ints(5)},
		{"just ahead of a multiple of P", nil, s, 5, soft(3, 1), runs(-1, 4, -2, 1, -1, 1), nil, ints(5)},
		{"at a multiple of P", nil, s, 5, soft(4, 2), runs(-1, 4, -2, 2, -1, 2), nil, ints(6)},
		{"long", nil, s, 5, soft(0, 5), runs(-2, 2, -1, 2, -2, 2, -1, 2, -2, 1), nil, ints(9)},
		{"behind a job", []api.Job{by(6, 0, 3)}, s, 5, soft(0, 2), ints(0, 0, 0, -2, -2, -1), ints(3), ints(5)},
		{"time becomes Q, and isn't added to", []api.Job{by(6, 0, 3)}, s, 5, soft(0, 9), ints(0, 0, 0, -2, -2, -2, -1, -1, -2, -2), ints(3), ints(-1)},
		{"its time waits while a job goes first", []api.Job{by(6, 1, 2)}, s, 5, soft(0, 2), ints(-2, 0, 0, -2, -1), ints(3), ints(4)},
		{"ahead of a job", []api.Job{by(4, 0, 3)}, s, 5, soft(0, 3), ints(-2, -2, 0, 0, -2, 0, -1), ints(6), ints(5)},
		{"of the document's tests", []api.Job{{C: 2, Due: 9, P: 1}}, s, 5, soft(1, 3), ints(0, 0, -1, -1, -2, -2, -1, -1, -2, -1), ints(2), ints(9)},
		{"P is 1", nil, polling(1, 1), 5, soft(0, 2, 5, 1), ints(-2, -2, -1, -1, -1, -2), nil, ints(2, 6)},
		{"as long as may be", nil, polling(api.MaxTime, api.MaxTime), 0, soft(0, api.MaxTime, 1, api.MaxTime), runs(-2, api.MaxUntil), nil, ints(api.MaxTime, api.MaxUntil)},
		{"once in the longest P", nil, polling(1, api.MaxTime), 0, soft(1, 1), runs(-1, api.MaxTime, -2, 1, -1, 4), nil, ints(api.MaxTime + 1)},
	})
}

func TestPlayDeferrable(t *testing.T) {
	s := deferrable(2, 4)
	wantAll(t, []played{
		{"its time is left when nothing is there", nil, s, 5, soft(0, 1, 2, 1), ints(-2, -1, -2, -1), nil, ints(1, 3)},
		{"at once, whenever it comes", nil, s, 5, soft(1, 1, 3, 1), ints(-1, -2, -1, -2, -1), nil, ints(2, 4)},
		{"two times together", nil, s, 5, soft(2, 5), ints(-1, -1, -2, -2, -2, -2, -1, -1, -2), nil, ints(9)},
		{"what is left over isn't added to", nil, deferrable(1, 4), 5, soft(9, 3), runs(-1, 9, -2, 1, -1, 2, -2, 1, -1, 3, -2, 1), nil, ints(17)},
		{"used up", nil, s, 5, soft(0, 2, 2, 1), ints(-2, -2, -1, -1, -2), nil, ints(2, 5)},
		{"together", nil, s, 5, soft(1, 1, 1, 1, 1, 1), ints(-1, -2, -2, -1, -2), nil, ints(2, 3, 5)},
		{"while others are there", nil, s, 5, soft(0, 2, 1, 1), ints(-2, -2, -1, -1, -2, -1), nil, ints(2, 5)},
		{"behind a job", []api.Job{by(6, 0, 3)}, s, 5, soft(0, 4), ints(0, 0, 0, -2, -2, -2, -1, -1, -2), ints(3), ints(9)},
		{"ahead of a job", []api.Job{by(4, 0, 3)}, s, 5, soft(1, 3), ints(0, -2, -2, 0, -2, 0, -1), ints(6), ints(5)},
		{"of the document's tests", []api.Job{{C: 2, Due: 9, P: 1}}, deferrable(1, 4), 5, soft(1, 3), ints(0, -2, 0, -1, -2, -1, -1, -1, -2, -1), ints(3), ints(9)},
		{"P is 1", nil, deferrable(1, 1), 5, soft(0, 2, 5, 1), ints(-2, -2, -1, -1, -1, -2), nil, ints(2, 6)},
		{"as long as may be", nil, deferrable(api.MaxTime, api.MaxTime), 0, soft(0, api.MaxTime, 1, api.MaxTime), runs(-2, api.MaxUntil), nil, ints(api.MaxTime, api.MaxUntil)},
	})
}

func TestPlayConstant(t *testing.T) {
	s := constant(2, 6)
	wantAll(t, []played{
		{"nobody else", nil, s, 0, soft(0, 9), runs(-2, 9, -1, 1), nil, ints(9)},
		{"due ahead of the job", []api.Job{due(0, 1, 5)}, constant(1, 4), 0, soft(0, 1), ints(-2, 0, -1), ints(2), ints(1)},
		{"due with the job", []api.Job{due(0, 1, 4)}, constant(1, 4), 0, soft(0, 1), ints(0, -2, -1), ints(1), ints(2)},
		{"due behind the job", []api.Job{due(0, 1, 3)}, constant(1, 4), 0, soft(0, 1), ints(0, -2, -1), ints(1), ints(2)},
		{"due P behind its coming", []api.Job{due(3, 1, 7)}, constant(1, 4), 0, soft(3, 1), ints(-1, -1, -1, 0, -2), ints(4), ints(5)},
		{"due P behind its coming", []api.Job{due(3, 1, 8)}, constant(1, 4), 0, soft(3, 1), ints(-1, -1, -1, -2, 0), ints(5), ints(4)},
		{"its time is used up", []api.Job{due(0, 2, 7)}, constant(1, 3), 0, soft(0, 3), ints(-2, -2, 0, 0, -2), ints(4), ints(5)},
		{"its time is used up: due with the job", []api.Job{due(0, 2, 6)}, constant(1, 3), 0, soft(0, 3), ints(-2, 0, 0, -2, -2), ints(3), ints(5)},
		{"it has Q again", []api.Job{due(0, 1, 13)}, s, 0, soft(0, 5), ints(-2, -2, -2, -2, 0, -2), ints(5), ints(6)},
		{"time times P below", []api.Job{due(2, 2, 7)}, s, 0, soft(0, 1, 2, 2), ints(-2, -1, -2, 0, 0, -2, -1), ints(5), ints(1, 6)},
		{"time times P equal", []api.Job{due(3, 2, 8)}, s, 0, soft(0, 1, 3, 2), ints(-2, -1, -1, 0, 0, -2, -2), ints(5), ints(1, 7)},
		{"time times P equal: time is Q", []api.Job{due(3, 2, 10)}, s, 0, soft(0, 1, 3, 2), ints(-2, -1, -1, -2, -2, 0, 0), ints(7), ints(1, 5)},
		{"time times P above", []api.Job{due(4, 2, 9)}, s, 0, soft(0, 1, 4, 2), ints(-2, -1, -1, -1, 0, 0, -2, -2), ints(6), ints(1, 8)},
		{"time times P above: time is Q", []api.Job{due(4, 2, 11)}, s, 0, soft(0, 1, 4, 2), ints(-2, -1, -1, -1, -2, -2, 0, 0), ints(8), ints(1, 6)},
		{"due is over", []api.Job{due(9, 2, 14), due(9, 1, 15)}, s, 0, soft(0, 1, 9, 2), runs(-2, 1, -1, 8, 0, 2, 1, 1, -2, 2), ints(11, 12), ints(1, 14)},
		{"due is over", []api.Job{due(9, 2, 16), due(9, 1, 14)}, s, 0, soft(0, 1, 9, 2), runs(-2, 1, -1, 8, 1, 1, -2, 2, 0, 2), ints(14, 10), ints(1, 12)},
		{"due later than P, after much at once", []api.Job{due(4, 1, 17)}, s, 0, soft(0, 4, 4, 1), ints(-2, -2, -2, -2, 0, -2), ints(5), ints(4, 6)},
		{"due later than P, after much at once", []api.Job{due(4, 1, 19)}, s, 0, soft(0, 4, 4, 1), ints(-2, -2, -2, -2, -2, 0), ints(6), ints(4, 5)},
		{"while others are there nothing changes", []api.Job{due(0, 3, 3), due(3, 1, 5)}, constant(1, 4), 0, soft(0, 2, 3, 1), ints(0, 0, 0, -2, 1, -2, -2), ints(3, 5), ints(6, 7)},
		{"together", []api.Job{due(0, 1, 7)}, s, 0, soft(0, 1, 0, 1, 0, 1), ints(-2, -2, 0, -2, -1), ints(3), ints(1, 2, 4)},
		{"multiples of P don't matter", []api.Job{due(5, 2, 10)}, constant(1, 5), 0, soft(3, 2), ints(-1, -1, -1, -2, -2, 0, 0), ints(7), ints(5)},
		{"multiples of P don't matter", []api.Job{due(0, 9, 9), due(0, 1, 11)}, constant(1, 5), 0, soft(0, 3), ints(-2, 0, 0, 0, 0, 0, 0, 0, 0, 0, -2, 1, -2), ints(10, 12), ints(13)},
		{"of the document's tests", []api.Job{{C: 2, Due: 9, P: 1}}, constant(1, 3), 0, soft(1, 3), ints(0, -2, -2, 0, -2, -1, -1, -1, -1, -1), ints(4), ints(5)},
		{"as long as may be", nil, constant(api.MaxTime, api.MaxTime), 0, soft(0, api.MaxTime, 1, api.MaxTime), runs(-2, api.MaxUntil), nil, ints(api.MaxTime, api.MaxUntil)},
		{"due as late as may be", []api.Job{due(0, 1, lastDue)}, constant(1, api.MaxTime), 0, soft(0, 9), ints(-2, -2, -2, -2, -2, -2, -2, 0, -2, -2), ints(8), ints(10)},
	})
}

// TestPlayPriorities: p against the P of the one that goes first; Constant asks neither.
func TestPlayPriorities(t *testing.T) {
	for _, c := range []struct {
		p, job int
		first  bool
	}{
		{4, 5, false}, {5, 5, false}, {6, 5, true}, {0, 0, false}, {0, -1, true}, {1000, 1000, false}, {1000, 999, true}, {1000, 1001, false},
		{0, math.MinInt, true}, {1000, math.MinInt, true}, {0, math.MaxInt, false}, {1000, math.MaxInt, false},
	} {
		jobs, some := []api.Job{by(c.job, 0, 2)}, soft(0, 1)
		for _, s := range []api.Server{polling(2, 4), deferrable(2, 4)} {
			if c.first {
				wantPlay(t, "the server first", jobs, s, c.p, some, ints(-2, 0, 0), ints(3), ints(1))
			} else {
				wantPlay(t, "the job first", jobs, s, c.p, some, ints(0, 0, -2), ints(2), ints(3))
			}
		}
		wantPlay(t, "due first", jobs, constant(2, 4), c.p, some, ints(-2, 0, 0), ints(3), ints(1))
	}
	// Of the jobs that are there the one that goes first counts, and no other.
	both := []api.Job{{C: 1, Due: 90, P: 3}, {C: 1, Due: 2, P: 7}}
	wantPlay(t, "between two", both, deferrable(2, 4), 5, soft(0, 2), ints(1, -2, -2, 0), ints(4, 1), ints(3))
	wantPlay(t, "between two", both, constant(2, 4), 5, soft(0, 2), ints(1, -2, -2, 0), ints(4, 1), ints(3))
	wantPlay(t, "Fixed: Due isn't asked", []api.Job{{C: 1, Due: 0, P: 1}, {C: 1, Due: 9, P: 2}}, polling(1, 4), 5, soft(0, 1), ints(-2, 1, 0), ints(3, 2), ints(1))
	wantPlay(t, "Earliest: P isn't asked", []api.Job{{C: 1, Due: 3, P: 1}, {C: 1, Due: 1, P: 0}}, constant(1, 9), 5, soft(0, 1), ints(1, 0, -2), ints(2, 1), ints(3))
	wantPlay(t, "the same P: the least At", []api.Job{by(2, 1, 2), by(2, 0, 2)}, polling(1, 4), 5, soft(0, 1), ints(-2, 1, 1, 0, 0), ints(5, 3), ints(1))
}

// TestPlaySoft: what comes to the server is done one behind the other, as it comes, whatever its Due and P are.
func TestPlaySoft(t *testing.T) {
	l := []api.Job{{At: 0, C: 2, Due: 70, P: 1}, {At: 0, C: 1, Due: 0, P: 9}, {At: 1, C: 2, Due: 50, P: 20}, {At: 1, C: 1, Due: 1, P: -9}, {At: 9, C: 1}}
	for _, kind := range kinds() {
		s := api.Server{Kind: kind, Q: 9, P: 9}
		wantPlay(t, "as they come", nil, s, 0, l, runs(-2, 6, -1, 3, -2, 1, -1, 1), nil, ints(2, 3, 5, 6, 10))
		wantPlay(t, "just till until", nil, s, 0, l, runs(-2, 5), nil, ints(2, 3, 5, -1, -1))
		wantPlay(t, "in the midst of one", nil, s, 0, l, runs(-2, 4), nil, ints(2, 3, -1, -1, -1))
		wantPlay(t, "just at until, and behind it", nil, s, 0, soft(5, 1, 6, 1, api.MaxUntil, 1, lastAt, 1), none(5), nil, none(4))
		wantPlay(t, "till the last tick, and at until", nil, s, 0, soft(0, 4, 3, 1, 5, 1), runs(-2, 5), nil, ints(4, 5, -1))
		wantPlay(t, "no soft", []api.Job{by(3, 1, 2)}, s, 1000, nil, ints(-1, 0, 0, -1), ints(3), nil)
		wantPlay(t, "no job", []api.Job{}, s, 1000, soft(0, 1), ints(-2, -1), nil, ints(1))
		wantPlay(t, "nothing at all", nil, s, 0, nil, none(7), nil, nil)
		wantPlay(t, "no ticks", many(3), s, 0, many(2), nil, none(3), none(2))
		wantPlay(t, "jobs at until and behind it", []api.Job{by(1, 3, 1), by(1, lastAt, 1)}, s, 0, nil, none(3), none(2), nil)
	}
}

// TestPlayWrong: each fault, and which one is told ahead of which.
func TestPlayWrong(t *testing.T) {
	type given struct {
		jobs []api.Job
		s    api.Server
		p    int
		soft []api.Job
		till int
	}
	good := given{jobs: many(3), s: polling(1, 4), p: 5, soft: soft(0, 1, 3, 1, 3, 2), till: 9}
	spoil := []struct {
		what string
		do   func(g *given)
		want api.Fault
	}{
		{"jobs", func(g *given) { g.jobs = append(many(2), api.Job{C: 1, At: -1}) }, fault(api.ErrRange, 2)},
		{"soft", func(g *given) { g.soft = append(soft(9, 1), api.Job{At: 1}) }, fault(api.ErrRange, 1)},
		{"the server", func(g *given) { g.s.Kind = 0 }, fault(api.ErrOp, 0)},
		{"until", func(g *given) { g.till = -1 }, fault(api.ErrRange, 0)},
		{"p", func(g *given) { g.p = 1001 }, fault(api.ErrRange, 0)},
		{"the order of soft", func(g *given) { g.soft = append(soft(3, 1, 3, 1, 2, 1, 1, 1), g.soft...) }, fault(api.ErrOrder, 2)},
	}
	for set := 1; set < 1<<len(spoil); set++ {
		g, want := good, api.Fault{}
		for i := len(spoil) - 1; i >= 0; i-- {
			if set>>i&1 == 1 {
				spoil[i].do(&g)
				want = spoil[i].want
			}
		}
		wantNoPlay(t, "several faults", g.jobs, g.s, g.p, g.soft, g.till, want)
	}
	for _, kind := range kinds() {
		s := api.Server{Kind: kind, Q: 1, P: 4}
		for _, p := range []int{-1, 1001, math.MinInt, math.MaxInt} {
			wantNoPlay(t, "p", many(2), s, p, nil, 5, fault(api.ErrRange, 0))
		}
		for _, until := range []int{-1, api.MaxUntil + 1, math.MinInt, math.MaxInt} {
			wantNoPlay(t, "until", many(2), s, 5, nil, until, fault(api.ErrRange, 0))
		}
		wantNoPlay(t, "too many jobs", many(api.MaxJobs+1), s, 5, nil, 5, fault(api.ErrMany, 0))
		wantNoPlay(t, "too many of soft", many(2), s, 5, many(api.MaxJobs+1), 5, fault(api.ErrMany, 0))
		wantNoPlay(t, "soft, the second one", nil, s, 5, soft(1, 1, 0, 1), 5, fault(api.ErrOrder, 1))
		wantNoPlay(t, "soft, the last one", nil, s, 5, soft(0, 1, 1, 1, 7, 1, 6, 1), 5, fault(api.ErrOrder, 3))
		wantNoPlay(t, "soft, behind until", nil, s, 5, soft(lastAt, 1, lastAt-1, 1), 5, fault(api.ErrOrder, 1))
	}
	for _, j := range []api.Job{{At: -1, C: 1}, {At: lastAt + 1, C: 1}, {C: 0}, {C: api.MaxTime + 1}, {C: 1, Due: -1}, {C: 1, Due: lastDue + 1}} {
		wantNoPlay(t, "a job", []api.Job{by(1, 0, 1), j}, polling(1, 4), 5, nil, 5, fault(api.ErrRange, 1))
		wantNoPlay(t, "one of soft", []api.Job{by(1, 0, 1)}, polling(1, 4), 5, append(soft(0, 1, 0, 1), j), 5, fault(api.ErrRange, 2))
	}
	for _, s := range []api.Server{{Kind: 4, Q: 1, P: 1}, polling(0, 4), deferrable(5, 4), constant(1, api.MaxTime+1)} {
		wantNoPlay(t, "a server", many(2), s, 5, nil, 5, otherCheck(s))
	}
}

// TestPlayEnds: both ends of p and until, and as many of all as may be.
func TestPlayEnds(t *testing.T) {
	for _, kind := range kinds() {
		s := api.Server{Kind: kind, Q: 5, P: 5}
		for _, p := range []int{0, 1, 999, 1000} {
			for _, until := range []int{0, 1, api.MaxUntil - 1, api.MaxUntil} {
				ran, ends, served := none(until), ints(-1), ints(-1)
				if until > 0 {
					ran[0], served[0] = -2, 1
				}
				if until > 1 {
					ran[1], ends[0] = 0, 2
				}
				wantPlay(t, "p and until", []api.Job{{C: 1, Due: 9, P: -1}}, s, p, soft(0, 1), ran, ends, served)
			}
		}
		var ran, served []int
		for i := range api.MaxJobs {
			served = append(served, 5*i+5)
		}
		ran = runs(-2, api.MaxUntil)
		wantPlay(t, "as many as may be", slices.Repeat([]api.Job{{C: 1, Due: lastDue, P: -1}}, api.MaxJobs), s, 0, slices.Repeat(soft(0, 5), api.MaxJobs), ran, none(api.MaxJobs), served)
	}
}

// TestPlayNoSoft: without soft it is as in chapter 8.
func TestPlayNoSoft(t *testing.T) {
	m := newMaker(4)
	for range 2000 {
		jobs, until := m.jobs(9, 20), m.Intn(40)
		for _, kind := range kinds() {
			policy := api.Fixed
			if kind == api.Constant {
				policy = api.Earliest
			}
			want, f := sched.Play(jobs, policy, true, until)
			if f != (api.Fault{}) {
				t.Fatal(f)
			}
			wantPlay(t, "no soft", jobs, m.server(kind, 9), m.Intn(8), nil, want.Runs, want.Ends, nil)
		}
	}
}

// TestPlayAnotherWay: what is played is what the rules say word by word.
func TestPlayAnotherWay(t *testing.T) {
	m := newMaker(5)
	var s seen
	open, idle := 0, 0
	for range 15000 {
		until := m.Intn(50)
		jobs, some := m.jobs(m.one(2, 6, 12), m.one(10, 30)), m.soft(m.one(2, 6, 12), m.one(10, 30), m.one(1, 3, 9))
		for _, kind := range kinds() {
			v, p := m.server(kind, m.one(3, 8, 12)), m.Intn(6)
			want, served := s.otherPlay(jobs, v, p, some, until)
			wantPlay(t, "made", jobs, v, p, some, want.Runs, want.Ends, served)
			open += count(served, -1)
			idle += count(want.Runs, -1)
		}
	}
	for what, n := range map[string]int{"below": s.below, "equal": s.equal, "above": s.above, "again": s.again, "some": s.some, "nothing": s.nothing, "ended": s.ended,
		"kept": s.kept, "spent": s.spent, "tie": s.tie, "tieDue": s.tieDue, "behind": s.behind, "open": open, "idle": idle} {
		if n < 1000 {
			t.Errorf("%s: seen %d times", what, n)
		}
	}
}

// TestPlayShort: all of few jobs, soft and servers.
func TestPlayShort(t *testing.T) {
	var hard, come [][]api.Job
	var jobs, some []api.Job
	for at := range 3 {
		for c := 1; c <= 2; c++ {
			some = append(some, api.Job{At: at, C: c})
			for p := range 3 {
				jobs = append(jobs, api.Job{At: at, C: c, Due: 1 + 2*p + at%2, P: p})
			}
		}
	}
	hard, come = [][]api.Job{nil}, [][]api.Job{nil}
	for i, a := range jobs {
		hard = append(hard, []api.Job{a})
		for _, b := range jobs[i:] {
			hard = append(hard, []api.Job{a, b}, []api.Job{b, a})
		}
	}
	for _, a := range some {
		come = append(come, []api.Job{a})
		for _, b := range some {
			if a.At <= b.At {
				come = append(come, []api.Job{a, b})
			}
		}
	}
	var seen seen
	for _, kind := range kinds() {
		for p := 1; p <= 3; p++ {
			for q := 1; q <= p; q++ {
				for _, h := range hard {
					for _, c := range come {
						s := api.Server{Kind: kind, Q: q, P: p}
						want, served := seen.otherPlay(h, s, 1, c, 8)
						wantPlay(t, "short", h, s, 1, c, want.Runs, want.Ends, served)
					}
				}
			}
		}
	}
}

// TestPlayBeginning: more ticks change nothing in those ahead of them.
func TestPlayBeginning(t *testing.T) {
	m := newMaker(6)
	upTo := func(ends []int, until int) []int {
		l := none(len(ends))
		for i, end := range ends {
			if end <= until {
				l[i] = end
			}
		}
		return l
	}
	for range 200 {
		jobs, some := m.jobs(9, 20), m.soft(9, 20, 4)
		for _, kind := range kinds() {
			s, p := m.server(kind, 9), m.Intn(6)
			whole, served, _ := serve.Play(jobs, s, p, some, 50)
			for until := range 50 {
				wantPlay(t, "the beginning", jobs, s, p, some, whole.Runs[:until], upTo(whole.Ends, until), upTo(served, until))
			}
		}
	}
}

// TestPlayLong: great numbers over all ticks that are played.
func TestPlayLong(t *testing.T) {
	m := newMaker(7)
	var seen seen
	for range 4 {
		jobs, some := m.jobs(40, 5000), m.soft(40, 5000, 300)
		for i := range jobs {
			jobs[i].C *= 30
			jobs[i].Due = min(lastDue, jobs[i].At+m.Intn(20000))
		}
		for _, kind := range kinds() {
			s, p := m.server(kind, 3000), m.Intn(6)
			want, served := seen.otherPlay(jobs, s, p, some, 6000)
			wantPlay(t, "long", jobs, s, p, some, want.Runs, want.Ends, served)
		}
	}
}
