package serve_test

import (
	"slices"
	"testing"

	"punctual/api"
	"punctual/fixed"
	"punctual/sched"
	"punctual/serve"
	"punctual/tasks"
)

// beside is how tasks that come so are played beside a server: how many are late, how many are done just in time: when they are due, or, beside a Constant one, a tick ahead of that. (Where its due is a job's, the job goes first: so what it does till then is less than its share.)
func beside(t *testing.T, set []api.Task, s api.Server, p int, comes []api.Come, behind, takes []int, soft []api.Job, until int) (late, just int) {
	t.Helper()
	jobs, f := tasks.Jobs(set, comes, behind, takes)
	if f != (api.Fault{}) {
		t.Fatalf("Jobs: %v (%v %v %v %v)", f, set, comes, behind, takes)
	}
	played, _, f := serve.Play(jobs, s, p, soft, until)
	if f != (api.Fault{}) {
		t.Fatalf("Play: %v", f)
	}
	tardy, f := sched.Late(jobs, played)
	if f != (api.Fault{}) {
		t.Fatalf("Late: %v", f)
	}
	last := 0
	if s.Kind == api.Constant {
		last = 1
	}
	for i, end := range played.Ends {
		if end >= 0 && end == jobs[i].Due-last {
			just++
		}
	}
	return len(tardy), just
}

// comes lets tasks come as soon as they may, or now and then later, ahead of until.
func (m maker) comes(set []api.Task, until int) []api.Come {
	lazy := m.one(0, 0, 4, 20)
	next := make([]int, len(set))
	for i, t := range set {
		next[i] = m.one(0, m.Intn(t.T), m.Intn(1+lazy))
	}
	var comes []api.Come
	for now := range until {
		for _, i := range m.Perm(len(set)) {
			if now == next[i] {
				comes = append(comes, api.Come{Task: i, At: now})
				next[i] += set[i].T + m.Intn(1+lazy)
			}
		}
	}
	return comes
}

// behind is of each come how late it is: not at all, as late as may be, or between.
func (m maker) behind(set []api.Task, comes []api.Come) []int {
	kind := m.Intn(3)
	var l []int
	for _, c := range comes {
		l = append(l, m.Intn(set[c.Task].J+1))
		if kind > 0 {
			l[len(l)-1] = (kind - 1) * set[c.Task].J
		}
	}
	return l
}

// takes is of each come how long it takes: mostly as long as may be.
func (m maker) takes(set []api.Task, comes []api.Come) []int {
	short := m.one(0, 0, 2)
	var l []int
	for _, c := range comes {
		n := set[c.Task].C
		if short > 0 && m.Intn(short) == 0 {
			n = m.within(1, n)
		}
		l = append(l, n)
	}
	return l
}

// pours is much that comes to a server: at once, in drops, or in gushes between which it has nothing to do.
func (m maker) pours(s api.Server, until int) []api.Job {
	var l []api.Job
	most := m.one(1, s.Q, 2*s.Q, 3*s.P)
	pause := m.one(0, 1, s.P, 3*s.P)
	for at := m.one(0, m.Intn(until), m.Intn(s.P+1)); at < until && len(l) < 400; at += m.within(0, pause) {
		l = append(l, api.Job{At: at, C: m.within(1, min(most, api.MaxTime)), Due: m.Intn(40), P: m.Intn(9)})
		if pause == 0 && m.Intn(4) == 0 {
			at++
		}
	}
	return l
}

func TestFollowsExamples(t *testing.T) {
	set := named(task(3, 5, 1))
	come := []api.Come{{At: 3}}
	for _, c := range []struct {
		what       string
		s          api.Server
		want       api.Errno
		late, just int
	}{
		{"two times of a Deferrable one together", deferrable(2, 5), api.ErrNone, 1, 0},
		{"a Deferrable one that is admitted", deferrable(1, 5), api.OK, 0, 1},
		{"a Polling one as great as the first one", polling(2, 5), api.OK, 0, 1},
		{"a Constant one as great as the first one", constant(2, 5), api.OK, 0, 0},
	} {
		if f := serve.Admits(set, c.s, 2); f.Code != c.want {
			t.Errorf("%s: %v", c.what, f)
		}
		late, just := beside(t, set, c.s, 2, come, []int{0}, []int{3}, soft(3, 99), 30)
		if late != c.late || just != c.just {
			t.Errorf("%s: %d late, %d just in time", c.what, late, just)
		}
	}
}

// TestNobodyIsLate: where Admits says OK, however the tasks come, and whatever comes to the server.
func TestNobodyIsLate(t *testing.T) {
	m := newMaker(8)
	for _, kind := range kinds() {
		sets, close, tardy := 0, 0, 0
		for range 2500 {
			set := m.made(kind)
			s, p := m.server(kind, m.one(5, 20, 40)), m.Intn(len(set)+2)
			if kind == api.Constant && m.Intn(2) == 0 {
				set, s = m.whole()
			}
			admitted := serve.Admits(set, s, p).Code == api.OK
			if admitted {
				sets++
			}
			for range 4 {
				comes := m.comes(set, 150)
				late, just := beside(t, set, s, p, comes, m.behind(set, comes), m.takes(set, comes), m.pours(s, 200), 300)
				if admitted && late > 0 {
					t.Fatalf("late: %d of %v (%v %v %d)", late, comes, set, s, p)
				}
				if admitted {
					close += just
				} else if late > 0 {
					tardy++
				}
			}
		}
		// The last two: else nothing would be shown.
		if sets < 500 || close < 500 || tardy < 1000 {
			t.Errorf("kind %d: %d sets, %d jobs just in time, %d times some are late where Admits doesn't say OK", kind, sets, close, tardy)
		}
	}
}

// made is a set as Admits may take it beside a server of that kind: with a J, or with a D above its T.
func (m maker) made(kind int) []api.Task {
	set := m.set(m.within(1, 5), m.one(6, 20, 40), m.one(20, 40, 60))
	if kind != api.Constant && m.Intn(2) == 0 {
		set, _ = fixed.Deadlines(set)
	}
	for i := range set {
		if m.Intn(4) > 0 {
			continue
		}
		if kind == api.Constant {
			set[i].D = m.within(set[i].C, 2*set[i].T)
			continue
		}
		set[i].J = m.Intn(1 + set[i].D - set[i].C)
	}
	return set
}

// whole are tasks and a Constant server that use just 1 together.
func (m maker) whole() ([]api.Task, api.Server) {
	var l []api.Task
	rest := 24
	for range m.within(1, 4) {
		d := m.one(4, 6, 8, 12, 24)
		c := m.within(1, max(1, d/2))
		if c*24/d >= rest {
			continue
		}
		rest -= c * 24 / d
		l = append(l, till(c, d*m.within(1, 2), d, 1))
	}
	if len(l) == 0 {
		return named(task(1, 2, 1)), constant(1, 2)
	}
	times := m.within(1, 3)
	return named(l...), constant(rest*times, 24*times)
}

// TestNobodyIsLateForLong: as great numbers and as many ticks as may be.
func TestNobodyIsLateForLong(t *testing.T) {
	m := newMaker(9)
	for _, kind := range kinds() {
		sets := 0
		for range 60 {
			set := m.set(m.within(2, api.MaxTasks-1), m.one(200, 2000, 10000), m.one(20, 40))
			if kind != api.Constant {
				set, _ = fixed.Deadlines(set)
			}
			s, p := m.server(kind, m.one(100, 1000)), m.Intn(len(set)+2)
			comes := m.comes(set, api.MaxUntil)
			if serve.Admits(set, s, p).Code != api.OK || len(comes) > api.MaxJobs {
				continue
			}
			sets++
			late, _ := beside(t, set, s, p, comes, make([]int, len(comes)), m.takes(set, comes), m.pours(s, api.MaxUntil), api.MaxUntil)
			if late > 0 {
				t.Fatalf("late: %d (%v %v %d)", late, set, s, p)
			}
		}
		if sets < 5 {
			t.Errorf("kind %d: %d sets", kind, sets)
		}
	}
}

// TestNobodyIsLateShort: all of few tasks, servers and comings; what comes to the server is all that may come, or each tick alone.
func TestNobodyIsLateShort(t *testing.T) {
	var some []api.Task
	for c := 1; c <= 2; c++ {
		for period := c + 1; period <= 6; period++ {
			for d := c; d <= period; d += 2 {
				some = append(some, till(c, period, d, period%2))
			}
		}
	}
	var pours [][]api.Job
	for from := range 5 {
		pours = append(pours, soft(from, 40))
		for gap := range 4 {
			pours = append(pours, soft(from, 1, from+gap, 40))
		}
	}
	admitted := 0
	for _, kind := range kinds() {
		for _, a := range some {
			for _, b := range some {
				set := named(a, b)
				for _, s := range []api.Server{{Kind: kind, Q: 1, P: 2}, {Kind: kind, Q: 1, P: 3}, {Kind: kind, Q: 2, P: 6}, {Kind: kind, Q: 1, P: 5}} {
					if serve.Admits(set, s, 1).Code != api.OK {
						continue
					}
					admitted++
					for o := range 4 {
						set[1].O = o
						comes, _ := tasks.Comes(set, 16)
						takes := make([]int, len(comes))
						for i, c := range comes {
							takes[i] = set[c.Task].C
						}
						for _, l := range pours {
							if late, _ := beside(t, set, s, 1, comes, make([]int, len(comes)), takes, l, 20); late > 0 {
								t.Fatalf("late: %d (%v %v %v)", late, set, s, l)
							}
						}
					}
				}
			}
		}
	}
	if admitted < 300 {
		t.Errorf("%d are admitted", admitted)
	}
}

// TestServedWithoutJobs: a Constant server that is alone never stops while something is there.
func TestServedWithoutJobs(t *testing.T) {
	m := newMaker(10)
	for range 300 {
		some := m.soft(9, 20, 5)
		played, ends, _ := serve.Play(nil, m.server(api.Constant, 9), 0, some, 70)
		now := 0
		for i, j := range some {
			now = max(now, j.At) + j.C
			if ends[i] != now {
				t.Errorf("%d is done at %d, want %d (%v)", i, ends[i], now, some)
			}
		}
		if slices.Max(append(played.Runs, -2)) > -1 {
			t.Errorf("jobs run that aren't there: %v", played)
		}
	}
}
