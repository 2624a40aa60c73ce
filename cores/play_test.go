package cores_test

import (
	"math"
	"slices"
	"testing"

	"punctual/api"
	"punctual/cores"
	"punctual/sched"
)

// policies are both.
func policies() []int { return ints(api.Fixed, api.Earliest) }

func TestPlayNobody(t *testing.T) {
	eachCores(func(n int) {
		for _, policy := range policies() {
			for _, until := range []int{0, 1, 9, api.MaxUntil} {
				wantPlay(t, "no jobs", nil, policy, n, make([][]int, until), nil)
				wantPlay(t, "no jobs", []api.Job{}, policy, n, make([][]int, until), nil)
			}
			wantPlay(t, "no ticks", many(3), policy, n, nil, none(3))
			wantPlay(t, "no ticks", many(api.MaxJobs), policy, n, nil, none(api.MaxJobs))
			wantPlay(t, "it comes at until", []api.Job{by(1, 5, 1)}, policy, n, make([][]int, 5), none(1))
			wantPlay(t, "it comes behind until", []api.Job{by(1, lastAt, 1), by(1, api.MaxUntil, 1)}, policy, n, make([][]int, api.MaxUntil), none(2))
		}
	})
}

func TestPlayFixed(t *testing.T) {
	for _, c := range []struct {
		what string
		n    int
		jobs []api.Job
		ran  [][]int
		ends []int
	}{
		{"fewer than cores", 3, []api.Job{by(1, 0, 2), by(2, 1, 1)}, ticks(ints(0), ints(1, 0), nil), ints(2, 2)},
		{"a core that is free doesn't make one faster", 4, []api.Job{by(1, 0, 3)}, ticks(ints(0), ints(0), ints(0), nil), ints(3)},
		{"as many as cores", 2, []api.Job{by(1, 0, 2), by(2, 0, 1)}, ticks(ints(1, 0), ints(0), nil), ints(2, 1)},
		{"more than cores", 2, []api.Job{by(1, 0, 2), by(3, 0, 2), by(2, 0, 1)}, ticks(ints(1, 2), ints(1, 0), ints(0), nil), ints(3, 2, 1)},
		{"four cores, six jobs", 4, []api.Job{by(1, 0, 1), by(6, 0, 1), by(2, 0, 1), by(5, 0, 1), by(3, 0, 1), by(4, 0, 1)},
			ticks(ints(1, 3, 5, 4), ints(2, 0), nil), ints(2, 1, 2, 1, 1, 1)},
		{"the greatest P, and Due isn't asked", 1, []api.Job{{C: 1, Due: 1, P: 1}, {C: 1, Due: 9, P: 2}}, ticks(ints(1), ints(0)), ints(2, 1)},
		{"one comes while all are busy, and goes ahead", 2, []api.Job{by(2, 0, 3), by(1, 0, 3), by(3, 1, 1)}, ticks(ints(0, 1), ints(2, 0), ints(0, 1), ints(1)), ints(3, 4, 2)},
		{"one comes while all are busy, and waits", 2, []api.Job{by(2, 0, 3), by(3, 0, 3), by(1, 1, 1)}, ticks(ints(1, 0), ints(1, 0), ints(1, 0), ints(2)), ints(3, 3, 4)},
		{"one comes between the two that run", 2, []api.Job{by(3, 0, 2), by(1, 0, 2), by(2, 1, 2)}, ticks(ints(0, 1), ints(0, 2), ints(2, 1)), ints(2, 3, 3)},
		{"two come, and go ahead of both", 2, []api.Job{by(2, 0, 2), by(1, 0, 2), by(4, 1, 1), by(3, 1, 2)}, ticks(ints(0, 1), ints(2, 3), ints(3, 0), ints(1)), ints(3, 4, 2, 3)},
		{"the same P: the least At", 2, []api.Job{by(1, 1, 1), by(1, 0, 3), by(1, 0, 2)}, ticks(ints(1, 2), ints(1, 2), ints(1, 0)), ints(3, 3, 2)},
		{"the same P and At: the first one in the list", 2, []api.Job{by(1, 0, 1), by(1, 0, 2), by(1, 0, 1)}, ticks(ints(0, 1), ints(1, 2)), ints(1, 2, 2)},
		{"the same P, it runs on ahead of one that comes", 1, []api.Job{by(1, 1, 1), by(1, 0, 3)}, ticks(ints(1), ints(1), ints(1), ints(0)), ints(4, 3)},
		{"P below 0, and as far apart as may be", 2, []api.Job{by(math.MinInt, 0, 1), by(-1, 0, 1), by(math.MaxInt, 0, 1), by(0, 0, 1)}, ticks(ints(2, 3), ints(1, 0)), ints(2, 2, 1, 1)},
		{"it isn't done at until", 2, []api.Job{by(1, 0, 3), by(2, 0, 2)}, ticks(ints(1, 0), ints(1, 0)), ints(-1, 2)},
		{"they come one behind the other", 3, []api.Job{by(1, 3, 1), by(1, 1, 1), by(1, 2, 2)}, ticks(nil, ints(1), ints(2), ints(2, 0), nil), ints(4, 2, 4)},
	} {
		wantPlay(t, c.what, c.jobs, api.Fixed, c.n, c.ran, c.ends)
	}
}

func TestPlayEarliest(t *testing.T) {
	for _, c := range []struct {
		what string
		n    int
		jobs []api.Job
		ran  [][]int
		ends []int
	}{
		{"fewer than cores", 2, []api.Job{till(0, 2, 9)}, ticks(ints(0), ints(0), nil), ints(2)},
		{"as many as cores", 2, []api.Job{till(0, 2, 9), till(0, 1, 5)}, ticks(ints(1, 0), ints(0), nil), ints(2, 1)},
		{"more than cores", 2, []api.Job{till(0, 2, 4), till(0, 1, 3), till(0, 1, 2)}, ticks(ints(2, 1), ints(0), ints(0)), ints(3, 1, 1)},
		{"the least Due, and P isn't asked", 1, []api.Job{{C: 1, Due: 9, P: 9}, {C: 1, Due: 1, P: 1}}, ticks(ints(1), ints(0)), ints(2, 1)},
		{"one comes while all are busy, and goes ahead", 2, []api.Job{till(0, 3, 8), till(0, 3, 9), till(1, 1, 2)}, ticks(ints(0, 1), ints(2, 0), ints(0, 1), ints(1)), ints(3, 4, 2)},
		{"one comes while all are busy, and waits", 2, []api.Job{till(0, 3, 8), till(0, 3, 7), till(1, 1, 9)}, ticks(ints(1, 0), ints(1, 0), ints(1, 0), ints(2)), ints(3, 3, 4)},
		{"the same Due: the least At", 2, []api.Job{till(1, 1, 9), till(0, 3, 9), till(0, 2, 9)}, ticks(ints(1, 2), ints(1, 2), ints(1, 0)), ints(3, 3, 2)},
		{"the same Due and At: the first one in the list", 3, []api.Job{till(0, 1, 9), till(0, 2, 9), till(0, 1, 9), till(0, 1, 9)}, ticks(ints(0, 1, 2), ints(1, 3)), ints(1, 2, 1, 2)},
		{"due at both ends", 2, []api.Job{till(0, 1, lastDue), till(0, 1, 0), till(0, 1, lastDue-1)}, ticks(ints(1, 2), ints(0)), ints(2, 1, 1)},
		{"late ones first", 2, []api.Job{till(0, 3, 1), till(0, 1, 3), till(0, 1, 2)}, ticks(ints(0, 2), ints(0, 1), ints(0)), ints(3, 2, 1)},
		{"a small one for each core, and a long one waits", 2, []api.Job{till(0, 1, 9), till(0, 1, 9), till(0, 10, 10)}, ticks(ints(0, 1), ints(2), ints(2)), ints(1, 1, -1)},
	} {
		wantPlay(t, c.what, c.jobs, api.Earliest, c.n, c.ran, c.ends)
	}
}

// TestPlayWrong: first the jobs, then the policy, then the number of cores and until.
func TestPlayWrong(t *testing.T) {
	notPolicies := ints(0, 3, -1, -2, math.MinInt, math.MaxInt)
	notUntil := ints(-1, api.MaxUntil+1, math.MinInt, math.MaxInt)
	anyCores, anyUntil := append(notCores(), 1, 2, api.MaxCores), append(notUntil, 0, 5, api.MaxUntil)
	for _, jobs := range [][]api.Job{nil, {}, many(1), many(40)} {
		for _, policy := range notPolicies {
			for _, n := range anyCores {
				for _, until := range anyUntil {
					wantNoPlay(t, "no policy", jobs, policy, n, until, fault(api.ErrOp, 0))
				}
			}
		}
		for _, policy := range policies() {
			for _, n := range notCores() {
				for _, until := range anyUntil {
					wantNoPlay(t, "no cores", jobs, policy, n, until, fault(api.ErrRange, 0))
				}
			}
			for _, n := range anyCores {
				for _, until := range notUntil {
					wantNoPlay(t, "no until", jobs, policy, n, until, fault(api.ErrRange, 0))
				}
			}
		}
	}
}

// TestPlayWrongJobs: what chapter 8's Check says is told ahead of all else.
func TestPlayWrongJobs(t *testing.T) {
	wrong := func(what string, jobs []api.Job, want api.Fault) {
		t.Helper()
		if f := sched.Check(jobs); f != want {
			t.Errorf("Check, %s: %v, want %v", what, f, want)
		}
		for _, policy := range ints(api.Fixed, api.Earliest, 0, 3) {
			for _, n := range ints(0, 1, api.MaxCores, api.MaxCores+1) {
				for _, until := range ints(-1, 0, 9, api.MaxUntil+1) {
					wantNoPlay(t, what, jobs, policy, n, until, want)
				}
			}
		}
	}
	wrong("too many", many(api.MaxJobs+1), fault(api.ErrMany, 0))
	wrong("too many, and all wrong", make([]api.Job, api.MaxJobs+1), fault(api.ErrMany, 0))
	for i := range 3 {
		for _, c := range []struct {
			what   string
			change func(j *api.Job)
		}{
			{"At", func(j *api.Job) { j.At = -1 }},
			{"At", func(j *api.Job) { j.At = lastAt + 1 }},
			{"C", func(j *api.Job) { j.C = 0 }},
			{"C", func(j *api.Job) { j.C = api.MaxTime + 1 }},
			{"Due", func(j *api.Job) { j.Due = -1 }},
			{"Due", func(j *api.Job) { j.Due = lastDue + 1 }},
			{"all", func(j *api.Job) { j.At, j.C, j.Due = math.MinInt, math.MaxInt, math.MinInt }},
		} {
			wrong(c.what, changed(many(3), i, c.change), fault(api.ErrRange, i))
		}
	}
	wrong("the first one of several", []api.Job{till(0, 1, 1), till(0, 0, 1), till(-1, 1, 1)}, fault(api.ErrRange, 1))
	// At the ends of what is allowed nothing is wrong.
	ends := []api.Job{{At: lastAt, C: api.MaxTime, Due: lastDue, Task: math.MinInt, P: math.MinInt}, {C: 1, Task: math.MaxInt, P: math.MaxInt}}
	wantPlay(t, "the ends", ends, api.Fixed, 2, ticks(ints(1), nil), ints(-1, 1))
	wantPlay(t, "the ends", ends, api.Earliest, 2, ticks(ints(1), nil), ints(-1, 1))
}

// TestPlayAnotherWay: what is played is what the rules say word by word.
func TestPlayAnotherWay(t *testing.T) {
	m := newMaker(148)
	var s seen
	for range 6000 {
		jobs := m.jobs(m.one(5, 9, 16), m.within(1, 14))
		until := m.Intn(30)
		eachCores(func(n int) {
			for _, policy := range policies() {
				ran, ends := s.otherPlay(jobs, policy, n, until)
				wantPlay(t, "made", jobs, policy, n, ran, ends)
			}
		})
	}
	if s.fewer < 50000 || s.just < 20000 || s.more < 50000 || s.ahead < 5000 || s.alike < 50000 || s.open < 5000 {
		t.Errorf("%+v", s)
	}
}

// TestPlayShort: all lists of up to three jobs, of few numbers, till all are done.
func TestPlayShort(t *testing.T) {
	var kinds []api.Job
	for at := range 2 {
		for c := range 2 {
			for d := range 2 {
				for p := range 2 {
					kinds = append(kinds, api.Job{At: at, C: 1 + c, Due: d, P: p})
				}
			}
		}
	}
	var s seen
	var all func(l []api.Job)
	all = func(l []api.Job) {
		for n := 1; n <= 3; n++ {
			for _, policy := range policies() {
				ran, ends := s.otherPlay(l, policy, n, 8)
				wantPlay(t, "short", l, policy, n, ran, ends)
			}
		}
		if len(l) == 3 {
			return
		}
		for _, j := range kinds {
			all(append(slices.Clip(l), j))
		}
	}
	all(nil)
}

// TestPlayOnOne: on one core it is what chapter 8 plays.
func TestPlayOnOne(t *testing.T) {
	m := newMaker(149)
	for range 2000 {
		jobs := m.jobs(12, 20)
		for _, policy := range policies() {
			p, _ := sched.Play(jobs, policy, true, 50)
			var ran [][]int
			for _, who := range p.Runs {
				if who < 0 {
					ran = append(ran, nil)
				} else {
					ran = append(ran, ints(who))
				}
			}
			wantPlay(t, "on one", jobs, policy, 1, ran, p.Ends)
		}
	}
}

// TestPlayMany: as many jobs as may be, in as many ticks as may be, on each number of cores; of one kind, so that the list alone says who goes first.
func TestPlayMany(t *testing.T) {
	jobs := slices.Repeat([]api.Job{{C: 5, Due: lastDue}}, api.MaxJobs)
	eachCores(func(n int) {
		var ran [][]int
		var ends []int
		for i := 0; i < len(jobs); i += n {
			var who []int
			for k := i; k < min(i+n, len(jobs)); k++ {
				who = append(who, k)
				ends = append(ends, 5*(i/n)+5)
			}
			ran = append(ran, who, who, who, who, who)
		}
		for len(ran) < api.MaxUntil {
			ran = append(ran, nil)
		}
		for _, policy := range policies() {
			wantPlay(t, "many", jobs, policy, n, ran, ends)
		}
	})
}

// TestPlayFalling: each that comes goes ahead of all that are there: on two cores two come at a time, each of which has run one tick when the next ones come.
func TestPlayFalling(t *testing.T) {
	const n = api.MaxJobs
	jobs, ends := make([]api.Job, n), make([]int, n)
	for i := range jobs {
		jobs[i] = api.Job{At: i / 2, C: 5, Due: n - i/2, P: i / 2}
		ends[i] = n/2 + 4 + 4*(n/2-1-i/2)
	}
	for _, policy := range policies() {
		if _, e, f := cores.Play(jobs, policy, 2, api.MaxUntil); f != (api.Fault{}) || !slices.Equal(e, ends) {
			t.Errorf("by %d: %v", policy, f)
		}
	}
}

// TestPlayBeginning: more ticks change nothing in those ahead of them.
func TestPlayBeginning(t *testing.T) {
	m := newMaker(150)
	for range 200 {
		jobs := m.jobs(12, 14)
		n := m.within(1, api.MaxCores)
		for _, policy := range policies() {
			whole, last, _ := cores.Play(jobs, policy, n, 40)
			for until := range 40 {
				ends := none(len(jobs))
				for i, end := range last {
					if end <= until {
						ends[i] = end
					}
				}
				wantPlay(t, "the beginning", jobs, policy, n, whole[:until], ends)
			}
		}
	}
}

// fill writes n into a list and into the room behind it.
func fill(l []int, n int) {
	l = l[:cap(l)]
	for i := range l {
		l[i] = n
	}
}

// TestPlayOnlyReads: jobs and the room behind them stay as they are, and no two lists of the answers share memory, nor the room behind them.
func TestPlayOnlyReads(t *testing.T) {
	m := newMaker(151)
	for range 300 {
		room := m.jobs(16, 12)
		kept := slices.Clone(room)
		jobs := room[:m.Intn(len(room)+1)]
		n := m.within(1, api.MaxCores)
		for _, policy := range policies() {
			ran, ends, _ := cores.Play(jobs, policy, n, 30)
			again, last, _ := cores.Play(jobs, policy, n, 30)
			for now, l := range ran {
				fill(l, -100-now)
			}
			fill(ends, -99)
			for now, l := range ran {
				if slices.ContainsFunc(l, func(who int) bool { return who != -100-now }) {
					t.Fatalf("tick %d shares memory with another list", now)
				}
			}
			wantPlay(t, "again", jobs, policy, n, again, last)
		}
		if !slices.Equal(room, kept) {
			t.Fatalf("changed: %v", room)
		}
	}
}
