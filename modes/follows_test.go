package modes_test

import (
	"slices"
	"testing"

	"punctual/api"
	"punctual/modes"
	"punctual/tasks"
)

// everyCrit are how often tasks of two levels come.
func everyCrit(set []api.Crit) []int {
	var l []int
	for _, t := range set {
		l = append(l, t.T)
	}
	return l
}

// kept counts what was seen of P13.4: jobs of either kind, and those that were done just when they had to be.
type kept struct {
	turned         int
	well, justWell int
	ill, justIll   int
	given, late    int // given up; done just at ill, which is behind well
}

// want: is each job done so soon as Responses says?
func (k *kept) want(t *testing.T, set []api.Crit, come []api.Come, take []int, until int) {
	t.Helper()
	well, ill, f := modes.Responses(set)
	if f != (api.Fault{}) {
		t.Fatalf("Responses: %v (%v)", f, set)
	}
	m, f := modes.Play(set, come, take, until)
	if f != (api.Fault{}) {
		t.Fatalf("Play: %v (%v %v %v)", f, set, come, take)
	}
	if m.Turned >= 0 {
		k.turned++
	}
	for i, c := range come {
		end, most := m.Ends[i], c.At+max(well[c.Task], ill[c.Task])
		soon := c.At + well[c.Task]
		if m.Turned < 0 || m.Turned > soon {
			k.well++
			if soon <= until && (end < 0 || end > soon) {
				t.Fatalf("%d is done at %d, must be at %d: the mode turned at %d (%v %v %v)", i, end, soon, m.Turned, set, come, take)
			}
			if end == soon {
				k.justWell++
			}
		}
		if !set[c.Task].High {
			if end < 0 {
				k.given++
			}
			continue
		}
		k.ill++
		if most <= until && (end < 0 || end > most) {
			t.Fatalf("%d, a high one, is done at %d, must be at %d: the mode turned at %d (%v %v %v)", i, end, most, m.Turned, set, come, take)
		}
		if end == most && m.Turned >= 0 {
			k.justIll++
			k.late += min(1, max(0, end-soon))
		}
	}
}

// admitted is a set of which Responses says OK, or nil.
func (m maker) admitted(n, most, share int) []api.Crit {
	set := m.crits(n, most, share)
	if _, _, f := modes.Responses(set); f.Code != api.OK {
		return nil
	}
	return set
}

// TestHighOnesAreInTime is P13.4.
func TestHighOnesAreInTime(t *testing.T) {
	m := newMaker(139)
	var k kept
	sets := 0
	for range 12000 {
		set := m.admitted(m.within(1, 5), m.one(6, 20, 40), m.one(30, 50, 80))
		if set == nil {
			continue
		}
		sets++
		for range 4 {
			come := m.times(everyCrit(set), 120)
			k.want(t, set, come, m.takes(set, come), 200)
		}
	}
	if sets < 3000 || k.turned < 3000 || k.well < 50000 || k.justWell < 20000 || k.justIll < 500 || k.late < 300 || k.given < 5000 {
		t.Errorf("%d sets; %+v", sets, k)
	}
}

// TestAllIllAtOnce: all come together and the high ones take H, so that their times come close to what Responses says.
func TestAllIllAtOnce(t *testing.T) {
	m := newMaker(140)
	var k kept
	for range 12000 {
		set := m.admitted(m.within(2, 5), m.one(10, 30), m.one(30, 50))
		if set == nil {
			continue
		}
		from := m.Intn(5)
		come := m.follow(everyCrit(set), slices.Repeat(ints(from), len(set)), 0, 60)
		var take []int
		for _, c := range come {
			take = append(take, set[c.Task].H)
		}
		k.want(t, set, come, take, 150)
		// Only one of them is ill, at some time.
		ill := m.Intn(len(come))
		for i, c := range come {
			if i != ill {
				take[i] = set[c.Task].C
			}
		}
		k.want(t, set, come, take, 150)
	}
	if k.turned < 3000 || k.justWell < 5000 || k.justIll < 2000 || k.late < 1000 || k.given < 5000 {
		t.Errorf("%+v", k)
	}
}

// TestInAnyOrder: the list of comings needn't be in order.
func TestInAnyOrder(t *testing.T) {
	m := newMaker(141)
	var k kept
	for range 3000 {
		set := m.admitted(m.within(1, 4), 20, 50)
		if set == nil {
			continue
		}
		come := m.times(everyCrit(set), 100)
		m.Shuffle(len(come), func(i, j int) { come[i], come[j] = come[j], come[i] })
		k.want(t, set, come, m.takes(set, come), 150)
	}
	if k.turned < 200 || k.well < 3000 {
		t.Errorf("%+v", k)
	}
}

// TestHighOnesForLong: great numbers, over all ticks that are played.
func TestHighOnesForLong(t *testing.T) {
	m := newMaker(142)
	var k kept
	sets := 0
	for range 300 {
		set := m.admitted(m.within(2, api.MaxTasks), m.one(300, 2000, 10000), 50)
		if set == nil {
			continue
		}
		come := m.times(everyCrit(set), api.MaxUntil)
		if len(come) > api.MaxJobs {
			continue
		}
		sets++
		k.want(t, set, come, m.takes(set, come), api.MaxUntil)
	}
	if sets < 40 || k.turned < 20 {
		t.Errorf("%d sets; %+v", sets, k)
	}
}

// TestPremises: sets that aren't admitted, or come oftener, may be late.
func TestPremises(t *testing.T) {
	set := crits(low(2, 6, 6, 2), high(1, 3, 9, 9, 1))
	wantResponses(t, "in time", set, ints(2, 3), ints(0, 5))
	wantPlay(t, "every T", set, comes(0, 0, 1, 0), ints(2, 3), runs(0, 2, 1, 3, -1, 2), ints(2, 5), 3)
	wantPlay(t, "oftener", set, comes(0, 0, 0, 0, 1, 0), ints(2, 2, 3), runs(0, 2, 1, 2, 2, 3), ints(2, 4, 7), 5)
	set[1].D = 4
	wantNoResponses(t, "not in time", set, fault(api.ErrNone, 1))
	wantPlay(t, "not in time", set, comes(0, 0, 1, 0), ints(2, 3), runs(0, 2, 1, 3, -1, 2), ints(2, 5), 3)
}

// everyTask are how often tasks come.
func everyTask(set []api.Task) []int {
	var l []int
	for _, t := range set {
		l = append(l, t.T)
	}
	return l
}

// hosted: is each job of a task of which Within says OK done so soon behind its coming? Answers how many are, and how many just then.
func hosted(t *testing.T, set []api.Task, come []api.Come, behind, take []int, length int, l []api.Window, until int) (all, just int) {
	t.Helper()
	made, f := tasks.Jobs(set, come, behind, take)
	if f != (api.Fault{}) {
		t.Fatalf("Jobs: %v (%v %v %v %v)", f, set, come, behind, take)
	}
	p, f := modes.Hosted(made, length, l, until)
	if f != (api.Fault{}) {
		t.Fatalf("Hosted: %v", f)
	}
	for task := range set {
		most, f := modes.Within(set, task, length, l)
		if f.Code != api.OK {
			continue
		}
		for i, c := range come {
			if c.Task != task || c.At+most > until {
				continue
			}
			all++
			if p.Ends[i] < 0 || p.Ends[i] > c.At+most {
				t.Fatalf("%d, of %d, is done at %d, must be %d behind %d (%v %v %v %v, %d %v)", i, task, p.Ends[i], most, c.At, set, come, behind, take, length, l)
			}
			if p.Ends[i] == c.At+most {
				just++
			}
		}
	}
	return all, just
}

// behind is of each come how late it is: not at all, as late as may be, the first ones alone, or between.
func (m maker) behind(set []api.Task, come []api.Come) []int {
	kind := m.Intn(4)
	var l []int
	for i, c := range come {
		j := set[c.Task].J
		if kind == 0 || kind == 2 && i >= len(set) {
			j = 0
		} else if kind == 1 {
			j = m.Intn(j + 1)
		}
		l = append(l, j)
	}
	return l
}

// work is of each come how long it takes: mostly as long as may be.
func (m maker) work(set []api.Task, come []api.Come) []int {
	short := m.one(0, 0, 2)
	var l []int
	for _, c := range come {
		n := set[c.Task].C
		if short > 0 && m.Intn(short) == 0 {
			n = m.within(1, n)
		}
		l = append(l, n)
	}
	return l
}

// TestWithinHolds is P13.8.
func TestWithinHolds(t *testing.T) {
	m := newMaker(143)
	all, just, late := 0, 0, 0
	for range 8000 {
		set := m.tasks(m.within(1, 4), m.one(10, 20, 40), m.one(15, 30))
		length, l := m.frame(m.one(3, 8, 15), m.one(1, 2, 20))
		come := m.times(everyTask(set), 120)
		if m.Intn(2) == 0 && len(l) > 0 {
			// All come just as a window ends.
			end := l[m.Intn(len(l))]
			come = m.follow(everyTask(set), slices.Repeat(ints(end.At+end.Len), len(set)), 0, 120)
		}
		a, j := hosted(t, set, come, m.behind(set, come), m.work(set, come), length, l, 250)
		all, just = all+a, just+j
		if slices.ContainsFunc(set, func(t api.Task) bool { return t.J > 0 }) {
			late += j
		}
	}
	if all < 20000 || just < 3000 || late < 300 {
		t.Errorf("%d jobs, %d done just then, %d of them in sets with J", all, just, late)
	}
}

// TestWithinIsReached: where one task is alone, without J, and comes just as the worst gap begins, it is done just then.
func TestWithinIsReached(t *testing.T) {
	n := 0
	eachFrame(6, func(length int, l []api.Window) {
		for c := 1; c <= 5; c++ {
			set := named(task(c, 30, 1))
			most, f := modes.Within(set, 0, length, l)
			if f.Code != api.OK {
				continue
			}
			last := 0
			for at := range length {
				p, _ := modes.Hosted(jobs(by(1, at, c)), length, l, 60)
				last = max(last, p.Ends[0]-at)
			}
			if last != most {
				t.Errorf("it takes %d at worst, not %d (%d ticks, %d %v)", last, most, c, length, l)
			}
			n++
		}
	})
	if n < 1000 {
		t.Errorf("%d", n)
	}
}

// TestWithinForLong: great numbers, over all ticks that are played.
func TestWithinForLong(t *testing.T) {
	m := newMaker(144)
	all := 0
	for range 150 {
		set := m.tasks(m.within(2, api.MaxTasks), m.one(300, 2000, 10000), 30)
		length, l := m.frame(m.one(50, 300), 20)
		come := m.times(everyTask(set), api.MaxUntil)
		if len(come) > api.MaxJobs {
			continue
		}
		a, _ := hosted(t, set, come, m.behind(set, come), m.work(set, come), length, l, api.MaxUntil)
		all += a
	}
	if all < 2000 {
		t.Errorf("%d jobs", all)
	}
}
