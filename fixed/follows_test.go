package fixed_test

import (
	"slices"
	"testing"

	"punctual/api"
	"punctual/fixed"
	"punctual/sched"
	"punctual/tasks"
)

// played is how tasks that come so are played by fixed priorities: the jobs, when they were done, which of them are late.
func played(t *testing.T, set []api.Task, comes []api.Come, behind, takes []int, until int) ([]int, []int) {
	t.Helper()
	jobs, f := tasks.Jobs(set, comes, behind, takes)
	if f != (api.Fault{}) {
		t.Fatalf("Jobs: %v (%v %v %v %v)", f, set, comes, behind, takes)
	}
	p, f := sched.Play(jobs, api.Fixed, true, until)
	if f != (api.Fault{}) {
		t.Fatalf("Play: %v", f)
	}
	tardy, f := sched.Late(jobs, p)
	if f != (api.Fault{}) {
		t.Fatalf("Late: %v", f)
	}
	return p.Ends, tardy
}

// comes lets tasks come as soon as they may, or now and then later, ahead of until.
func (m maker) comes(set []api.Task, until int) []api.Come {
	lazy := m.one(0, 0, 4, 20)
	next := make([]int, len(set))
	for i, t := range set {
		next[i] = m.one(0, m.Intn(t.T), m.Intn(1+lazy))
	}
	var comes []api.Come
	for now := range until {
		for _, i := range m.Perm(len(set)) {
			if now == next[i] {
				comes = append(comes, api.Come{Task: i, At: now})
				next[i] += set[i].T + m.Intn(1+lazy)
			}
		}
	}
	return comes
}

// behind is of each come how late it is: not at all, as late as may be, or between.
func (m maker) behind(set []api.Task, comes []api.Come) []int {
	kind := m.Intn(4)
	var l []int
	for i, c := range comes {
		j := set[c.Task].J
		switch kind {
		case 0:
			j = 0
		case 1:
			j = m.Intn(j + 1)
		case 2: // the first ones alone: so the next ones follow closely
			if i >= len(set) {
				j = 0
			}
		}
		l = append(l, j)
	}
	return l
}

// takes is of each come how long it takes: mostly as long as may be.
func (m maker) takes(set []api.Task, comes []api.Come) []int {
	short := m.one(0, 0, 2)
	var l []int
	for _, c := range comes {
		n := set[c.Task].C
		if short > 0 && m.Intn(short) == 0 {
			n = m.within(1, n)
		}
		l = append(l, n)
	}
	return l
}

// TestNobodyIsLate: where Responses says OK, however the tasks come.
func TestNobodyIsLate(t *testing.T) {
	m := newMaker(96)
	sets, just, sameP, withJ := 0, 0, 0, 0
	for range 5000 {
		n := m.within(1, 5)
		set := m.jitter(m.set(n, m.one(6, 20, 40), m.one(40, 60, 80)))
		if m.Intn(2) == 0 {
			set, _ = fixed.Deadlines(set)
		}
		most, f := fixed.Responses(set, none(n))
		if f.Code != api.OK {
			continue
		}
		sets++
		for range 4 {
			comes := m.comes(set, 150)
			ends, tardy := played(t, set, comes, m.behind(set, comes), m.takes(set, comes), 300)
			if len(tardy) > 0 {
				t.Fatalf("late: %v of %v (%v)", tardy, comes, set)
			}
			for i, c := range comes {
				if ends[i] < 0 || ends[i] > c.At+most[c.Task] {
					t.Fatalf("%v is done at %d, but must be %d behind its coming (%v)", c, ends[i], most[c.Task], set)
				}
				if ends[i] == c.At+most[c.Task] {
					just++
					if set[c.Task].J > 0 {
						withJ++
					}
				}
			}
		}
		if slices.ContainsFunc(set[1:], func(t api.Task) bool { return t.P == set[0].P }) {
			sameP++
		}
	}
	if sets < 800 || just < 5000 || sameP < 100 || withJ < 500 {
		t.Errorf("%d sets, %d with the same P; %d jobs are done just at their responses, %d of them with J", sets, sameP, just, withJ)
	}
}

// TestNobodyIsLateForLong: sets with great numbers, over all ticks that are played.
func TestNobodyIsLateForLong(t *testing.T) {
	m := newMaker(97)
	sets := 0
	for range 60 {
		n := m.within(2, api.MaxTasks)
		set, f := fixed.Assign(m.jitter(m.set(n, m.one(200, 2000, 10000), m.one(40, 60))), none(n))
		if f.Code != api.OK {
			continue
		}
		comes := m.comes(set, api.MaxUntil)
		if len(comes) > api.MaxJobs {
			continue
		}
		sets++
		most, _ := fixed.Responses(set, none(n))
		ends, tardy := played(t, set, comes, m.behind(set, comes), m.takes(set, comes), api.MaxUntil)
		if len(tardy) > 0 {
			t.Fatalf("late: %v (%v)", tardy, set)
		}
		for i, c := range comes {
			if ends[i] > c.At+most[c.Task] {
				t.Fatalf("%v is done at %d, but must be %d behind its coming (%v)", c, ends[i], most[c.Task], set)
			}
		}
	}
	if sets < 15 {
		t.Errorf("%d sets", sets)
	}
}

// wantExact: where all come at 0, is the first job of each done just at Response, or late if there is none? Answers how many are and are not.
func wantExact(t *testing.T, set []api.Task) (int, int) {
	t.Helper()
	const until = 200
	comes, f := tasks.Comes(set, until)
	if f != (api.Fault{}) {
		t.Fatalf("Comes: %v (%v)", f, set)
	}
	var takes []int
	for _, c := range comes {
		takes = append(takes, set[c.Task].C)
	}
	ends, tardy := played(t, set, comes, none(len(comes)), takes, until)
	done, not := 0, 0
	for i := range set {
		r, f := fixed.Response(set, i, 0)
		if f.Code == api.OK {
			done++
			if ends[i] != r {
				t.Errorf("the first job of %d is done at %d, want %d (%v)", i, ends[i], r, set)
			}
			continue
		}
		not++
		if f != fault(api.ErrNone, i) || !slices.Contains(tardy, i) {
			t.Errorf("the first job of %d has no response, %v, but is done at %d (%v)", i, f, ends[i], set)
		}
	}
	return done, not
}

func TestAllAtNought(t *testing.T) {
	m := newMaker(98)
	done, not := 0, 0
	for range 3000 {
		n := m.within(1, api.MaxTasks)
		a, b := wantExact(t, m.order(m.set(n, m.one(5, 20, 100), m.one(50, 80, 110))))
		done, not = done+a, not+b
	}
	if min(done, not) < 1500 {
		t.Errorf("%d are done just so, %d are late", done, not)
	}
}

// TestAllAtNoughtShort: all pairs of tasks with small numbers, and a third one.
func TestAllAtNoughtShort(t *testing.T) {
	var all []api.Task
	for period := 1; period <= 5; period++ {
		for d := 1; d <= period; d++ {
			for c := 1; c <= d; c++ {
				all = append(all, due(c, period, d, 0))
			}
		}
	}
	for _, a := range all {
		for _, b := range all {
			wantExact(t, with(named(a, b), 2, 1))
			wantExact(t, with(named(a, b, due(3, 20, 13, 0)), 2, 1, 0))
		}
	}
}

// TestAssignFindsSome: wherever any priorities do, also such of which some are the same; and finds none elsewhere.
func TestAssignFindsSome(t *testing.T) {
	m := newMaker(99)
	some, no, one := 0, 0, 0
	for range 2500 {
		n := m.within(1, 4)
		set := m.jitter(m.set(n, m.one(5, 12, 30), m.one(50, 70, 90)))
		blocks := m.blocks(n, m.one(0, 1, 4))
		any, orders := false, 0
		eachPriorities(n, func(ps []int) { any = any || fits(with(set, ps...), blocks) })
		eachOrder(n, func(ps []int) {
			if fits(with(set, ps...), blocks) {
				orders++
			}
		})
		out, f := fixed.Assign(set, blocks)
		if !any {
			no++
			if f != fault(api.ErrNone, 0) || out != nil {
				t.Errorf("Assign finds some where there are none: %v %v (%v)", out, f, set)
			}
			continue
		}
		some++
		if orders == 1 {
			one++
		}
		if f != (api.Fault{}) || !fits(out, blocks) {
			t.Errorf("Assign finds none that do, but some do: %v %v (%v, %v)", out, f, set, blocks)
		}
		if _, g := fixed.Responses(out, blocks); g != (api.Fault{}) {
			t.Errorf("Responses of what Assign finds: %v (%v, %v)", g, out, blocks)
		}
	}
	if min(some, no) < 400 || one < 100 {
		t.Errorf("some do %d times, only one order %d times, none %d times", some, one, no)
	}
}

// TestDeadlinesDo: where all J are 0 and nobody is held up, those of Deadlines do wherever any do.
func TestDeadlinesDo(t *testing.T) {
	m := newMaker(100)
	some, no := 0, 0
	for range 2500 {
		n := m.within(2, 5)
		set := m.set(n, m.one(6, 12, 30), m.one(60, 80))
		any := false
		eachOrder(n, func(ps []int) { any = any || fits(with(set, ps...), none(n)) })
		out, f := fixed.Deadlines(set)
		if f != (api.Fault{}) {
			t.Fatalf("Deadlines: %v (%v)", f, set)
		}
		_, g := fixed.Responses(out, none(n))
		if (g.Code == api.OK) != any {
			t.Errorf("some do: %v; with those of Deadlines: %v (%v)", any, g, set)
		}
		if any {
			some++
		} else {
			no++
		}
	}
	if min(some, no) < 400 {
		t.Errorf("some do %d times, none %d times", some, no)
	}
}

// TestDeadlinesDoNotAlways: with J, or held up, they may not do where Assign's do.
func TestDeadlinesDoNotAlways(t *testing.T) {
	for _, c := range []struct {
		set    []api.Task
		blocks []int
	}{
		{named(due(1, 10, 6, 0), late(1, 10, 9, 0)), none(2)},
		{named(due(1, 10, 5, 0), due(1, 10, 6, 0)), []int{0, 5}},
	} {
		by, _ := fixed.Deadlines(c.set)
		if _, f := fixed.Responses(by, c.blocks); f != fault(api.ErrNone, 1) {
			t.Errorf("with those of Deadlines: %v (%v)", f, by)
		}
		out, _ := fixed.Assign(c.set, c.blocks)
		if _, f := fixed.Responses(out, c.blocks); f != (api.Fault{}) {
			t.Errorf("with those of Assign: %v (%v)", f, out)
		}
	}
}

// TestBoundsSuffice: Sum is true only where Product is, and Product only where those of Rates do.
func TestBoundsSuffice(t *testing.T) {
	m := newMaker(101)
	sums, products, rest := 0, 0, 0
	look := func(set []api.Task) {
		n := len(set)
		s, f := fixed.Sum(set)
		p, g := fixed.Product(set)
		if f != (api.Fault{}) || g != (api.Fault{}) {
			t.Fatalf("%v %v (%v)", f, g, set)
		}
		out, _ := fixed.Rates(set)
		_, f = fixed.Responses(out, none(n))
		switch {
		case s && !p:
			t.Errorf("Sum is true, but Product false (%v)", set)
		case p && f.Code != api.OK:
			t.Errorf("Product is true, but somebody is late: %v (%v)", f, out)
		case s:
			sums++
		case p:
			products++
		case f.Code == api.OK:
			rest++
		}
	}
	for range 20000 {
		n := m.within(1, api.MaxTasks)
		set := m.set(n, m.one(6, 30, 300, 10000), m.one(50, 60, 70))
		for i := range set {
			set[i].D = set[i].T
		}
		look(set)
	}
	for n := 1; n <= api.MaxTasks; n++ {
		look(steps(n))
	}
	if sums < 2000 || products < 300 || rest < 300 {
		t.Errorf("Sum %d times, Product alone %d times, neither though nobody is late %d times", sums, products, rest)
	}
}
