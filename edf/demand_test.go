package edf_test

import (
	"slices"
	"testing"

	"punctual/api"
	"punctual/edf"
)

// three are the tasks of the document.
func three() []api.Task { return named(task(1, 4), task(2, 6), task(3, 12)) }

func TestOfTheDocument(t *testing.T) {
	wantFits(t, "the document's", three(), api.Fault{})
	wantBusy(t, "the document's", three(), 10, api.Fault{})
	wantFits(t, "6 for 3", changed(three(), 2, func(t *api.Task) { t.C = 6 }), fault(api.ErrNone, 0))
}

func TestDemandOfOne(t *testing.T) {
	for _, c := range []struct {
		what string
		task api.Task
		want []int // of 0 ticks, 1 and so on
	}{
		{"D at T", task(2, 3), []int{0, 0, 0, 2, 2, 2, 4, 4, 4, 6}},
		{"D below T", due(1, 3, 2), []int{0, 0, 1, 1, 1, 2, 2, 2, 3}},
		{"D above T", due(3, 3, 5), []int{0, 0, 0, 0, 0, 3, 3, 3, 6, 6, 6, 9}},
		{"D far above T", due(1, 1, 4), []int{0, 0, 0, 0, 1, 2, 3, 4}},
		{"J 1", late(2, 3, 3, 1), []int{0, 0, 2, 2, 2, 4, 4, 4, 6}},
		{"J one below D", late(2, 5, 3, 2), []int{0, 2, 2, 2, 2, 2, 4}},
		{"J just D", late(2, 5, 3, 3), []int{2, 2, 2, 2, 2, 4, 4, 4, 4, 4, 6}},
		{"J one above D", late(2, 5, 3, 4), []int{2, 2, 2, 2, 4, 4, 4, 4, 4, 6}},
		{"J one below D and T", late(2, 5, 3, 7), []int{2, 4, 4, 4, 4, 4, 6}},
		{"J just D and T", late(2, 5, 3, 8), []int{4, 4, 4, 4, 4, 6}},
		{"J just D and two T", late(2, 5, 3, 13), []int{6, 6, 6, 6, 6, 8}},
		{"all 1", late(1, 1, 1, 1), []int{1, 2, 3, 4}},
	} {
		for ticks, want := range c.want {
			wantDemand(t, c.what, named(c.task), ticks, want, api.Fault{})
		}
	}
}

func TestDemandIsASum(t *testing.T) {
	set := named(due(2, 4, 3), due(2, 6, 4), late(5, 50, 12, 3))
	for _, c := range [][2]int{{2, 0}, {3, 2}, {4, 4}, {6, 4}, {7, 6}, {8, 6}, {9, 11}, {10, 13}, {11, 15}, {58, 28 + 20 + 5}, {59, 30 + 20 + 10}} {
		wantDemand(t, "a sum", set, c[0], c[1], api.Fault{})
	}
}

// TestDemandAsksNotForOAndP: neither O nor P has anything to do with it, nor with the others.
func TestDemandAsksNotForOAndP(t *testing.T) {
	m := newMaker(101)
	for range 500 {
		set := m.jitter(m.set(m.within(1, api.MaxTasks), 30, 70))
		other := slices.Clone(set)
		for i := range other {
			other[i].O, other[i].P = m.within(0, api.MaxTime), m.within(0, 1000)
		}
		ticks := m.Intn(200)
		want, _ := edf.Demand(set, ticks)
		wantDemand(t, "another O and P", other, ticks, want, api.Fault{})
		busy, f := edf.Busy(set)
		wantBusy(t, "another O and P", other, busy, f)
		wantFits(t, "another O and P", other, edf.Fits(set))
	}
}

func TestDemandRange(t *testing.T) {
	set := named(task(1, 4))
	wantDemand(t, "one below", set, -1, 0, fault(api.ErrRange, 0))
	wantDemand(t, "the least", set, 0, 0, api.Fault{})
	wantDemand(t, "the most", set, api.MaxHyper, 250000, api.Fault{})
	wantDemand(t, "one above", set, api.MaxHyper+1, 0, fault(api.ErrRange, 0))
	const far = int(^uint(0) >> 1)
	wantDemand(t, "far below", set, -far-1, 0, fault(api.ErrRange, 0))
	wantDemand(t, "far above", set, far, 0, fault(api.ErrRange, 0))
	const most = api.MaxTime
	great := named(slices.Repeat([]api.Task{late(most, 1, most, most)}, api.MaxTasks)...)
	wantDemand(t, "great", great, api.MaxHyper, api.MaxTasks*most*(api.MaxHyper+1), api.Fault{})
	wantDemand(t, "great", great, api.MaxHyper+1, 0, fault(api.ErrRange, 0))
	slow := named(due(1, most, most))
	wantDemand(t, "slow", slow, api.MaxHyper, 100, api.Fault{})
	wantDemand(t, "slow", slow, api.MaxHyper-1, 99, api.Fault{})
}

func TestDemandAnotherWay(t *testing.T) {
	m := newMaker(102)
	for range 4000 {
		set := m.jitter(m.set(m.within(1, api.MaxTasks), m.one(1, 5, 20, 300, 5000), m.one(50, 90, 200)))
		ticks := m.one(m.Intn(20), m.Intn(1000), m.within(0, 30000), api.MaxHyper/10)
		wantDemand(t, "another way", set, ticks, otherDemand(set, ticks), api.Fault{})
	}
}

func TestBusy(t *testing.T) {
	for _, c := range []struct {
		what string
		set  []api.Task
		want int
	}{
		{"one", named(task(1, 1)), 1},
		{"one with time left", named(task(3, 10)), 3},
		{"one, Use 1", named(task(10, 10)), 10},
		{"D has nothing to do with it", named(due(3, 10, 3)), 3},
		{"two", named(task(2, 4), task(2, 6)), 4},
		{"just at a T: the next one doesn't come in it", named(task(2, 5), task(3, 9)), 5},
		{"one more than a T", named(task(2, 5), task(4, 20)), 8},
		{"just at two T", named(task(3, 10), task(7, 20)), 10},
		{"Use 1, both T alike", named(task(1, 2), task(1, 2)), 2},
		{"Use 1: at the first time at which all come together", named(task(1, 2), task(2, 6), task(2, 12)), 12},
		{"Use 1, three", named(task(2, 4), task(2, 6), task(2, 12)), 12},
		{"Use one 10000th below 1", named(task(5000, 10000), task(4999, 10000)), 9999},
		{"Use just 1", named(task(5000, 10000), task(5000, 10000)), 10000},
		{"J 1", named(late(3, 10, 10, 1)), 3},
		{"J just T without C", named(late(3, 10, 10, 7)), 3},
		{"J one more", named(late(3, 10, 10, 8)), 6},
		{"J just two T without two C", named(late(3, 10, 10, 14)), 6},
		{"J of one, and another", named(late(2, 6, 6, 3), task(2, 10)), 6},
		{"J so that the first two come together", named(late(2, 6, 6, 5), task(2, 10)), 6},
	} {
		wantBusy(t, c.what, c.set, c.want, api.Fault{})
	}
}

func TestBusyAboveOne(t *testing.T) {
	none := fault(api.ErrNone, 0)
	for _, c := range []struct {
		what string
		set  []api.Task
	}{
		{"one", named(due(2, 1, 2))},
		{"just above", named(task(5000, 10000), task(5001, 10000))},
		{"two", named(task(1, 2), task(2, 3))},
		{"by less than a millionth", named(task(9998, 9999), task(1, 10000), task(1, 10000))},
		{"the greatest", named(slices.Repeat([]api.Task{late(10000, 1, 10000, 10000)}, api.MaxTasks)...)},
	} {
		wantBusy(t, c.what, c.set, 0, none)
		wantFits(t, c.what, c.set, none)
	}
	// Two of which the sum is just below 1, by less than a millionth.
	wantBusy(t, "just below", named(task(9998, 9999), task(1, 10000)), 9999, api.Fault{})
}

// TestBusyRange: ErrNone is told ahead of ErrRange, and ErrRange where w is above MaxHyper, or there is none.
func TestBusyRange(t *testing.T) {
	far := fault(api.ErrRange, 0)
	for _, c := range []struct {
		what string
		set  []api.Task
		want int
		f    api.Fault
	}{
		{"one below MaxHyper", named(late(9009, 9099, 10000, 9990)), api.MaxHyper - 1, api.Fault{}},
		{"just MaxHyper", named(late(8000, 8080, 10000, 10000)), api.MaxHyper, api.Fault{}},
		{"one above MaxHyper", named(late(9901, 10000, 10000, 9999)), 0, far},
		{"Use 1 with J: never", named(late(1, 1, 1, 1)), 0, far},
		{"Use 1 with J of one of several: never", named(late(1, 2, 2, 1), task(1, 2)), 0, far},
		{"Use 1 with J of 1, of great tasks: never", named(task(5000, 10000), late(5000, 10000, 10000, 1)), 0, far},
		{"Use 1, all come together soon enough", halves(491, 1013), 2 * 491 * 1013, api.Fault{}},
		{"Use 1, all come together too late", halves(499, 1009), 0, far},
		{"Use 1, all come together far too late", halves(4999, 4993), 0, far},
	} {
		wantBusy(t, c.what, c.set, c.want, c.f)
		if c.f.Code != api.OK {
			wantFits(t, c.what, c.set, c.f)
		}
	}
}

// halves are tasks of which Use is 1, though they come together only behind 2 p q ticks, for two primes p and q above 2.
func halves(p, q int) []api.Task {
	return named(task((p-1)/2, p), task(1, 2*p), task((q-1)/2, q), task(1, 2*q))
}

func TestBusyAnotherWay(t *testing.T) {
	m := newMaker(103)
	seen := map[api.Errno]int{}
	long := 0
	for range 3000 {
		set := m.jitter(m.set(m.within(1, api.MaxTasks), m.one(1, 5, 20, 300, 5000), m.one(50, 80, 95)))
		want, f := otherBusy(set)
		wantBusy(t, "another way", set, want, f)
		seen[f.Code]++
		if want > 2*slices.MaxFunc(set, func(a, b api.Task) int { return a.T - b.T }).T {
			long++
		}
	}
	if seen[api.OK] < 1000 || seen[api.ErrNone] < 200 || seen[api.ErrRange] < 10 || long < 50 {
		t.Errorf("seen: %v; %d are long", seen, long)
	}
}

// TestBusyIsTheHyper: where Use is 1 and all J are 0, all come together again when nothing is left to do.
func TestBusyIsTheHyper(t *testing.T) {
	seen := 0
	for a := 1; a <= 12; a++ {
		for b := a; b <= 12; b++ {
			for c := 1; c < a; c++ {
				if rest := b * (a - c); rest%a == 0 && rest > 0 {
					hyper := a
					for hyper%b != 0 {
						hyper += a
					}
					seen++
					wantBusy(t, "Use 1", named(task(c, a), due(rest/a, b, 12)), hyper, api.Fault{})
				}
			}
		}
	}
	if seen < 50 {
		t.Errorf("seen: %d", seen)
	}
}

// wantBad: does each call tell what chapter 7's Check says, and nothing else?
func wantBad(t *testing.T, what string, set []api.Task, want api.Fault) {
	t.Helper()
	for _, ticks := range []int{-1, 0, 1, 100, api.MaxHyper, api.MaxHyper + 1} {
		wantDemand(t, what, set, ticks, 0, want)
	}
	wantBusy(t, what, set, 0, want)
	wantFits(t, what, set, want)
}

func TestFaultsOfSets(t *testing.T) {
	several := func(n int) []api.Task {
		return named(slices.Repeat([]api.Task{task(1, 10)}, n)...)
	}
	// One of those that use too much, and one that is too busy: Check's word goes ahead of it.
	for _, set := range [][]api.Task{several(4), named(due(2, 1, 2), task(1, 1), task(9, 9), task(3, 3)), named(late(1, 4, 1, 4), late(1, 4, 1, 4), late(1, 4, 1, 4), late(1, 4, 1, 4))} {
		for i := range set {
			for _, c := range []struct {
				what   string
				code   api.Errno
				change func(t *api.Task)
			}{
				{"no name", api.ErrName, func(t *api.Task) { t.Name = "" }},
				{"a great letter", api.ErrName, func(t *api.Task) { t.Name = "A" }},
				{"eleven letters", api.ErrName, func(t *api.Task) { t.Name = "abcdefghijk" }},
				{"C 0", api.ErrRange, func(t *api.Task) { t.C = 0 }},
				{"C above MaxTime", api.ErrRange, func(t *api.Task) { t.C = api.MaxTime + 1 }},
				{"T 0", api.ErrRange, func(t *api.Task) { t.T = 0 }},
				{"T below 0", api.ErrRange, func(t *api.Task) { t.T = -4 }},
				{"T above MaxTime", api.ErrRange, func(t *api.Task) { t.T = api.MaxTime + 1 }},
				{"D 0", api.ErrRange, func(t *api.Task) { t.D = 0 }},
				{"D above MaxTime", api.ErrRange, func(t *api.Task) { t.D = api.MaxTime + 1 }},
				{"J below 0", api.ErrRange, func(t *api.Task) { t.J = -1 }},
				{"J above MaxTime", api.ErrRange, func(t *api.Task) { t.J = api.MaxTime + 1 }},
				{"O below 0", api.ErrRange, func(t *api.Task) { t.O = -1 }},
				{"P above 1000", api.ErrRange, func(t *api.Task) { t.P = 1001 }},
				{"C above D", api.ErrOrder, func(t *api.Task) { t.C = t.D + 1 }},
			} {
				wantBad(t, c.what, changed(set, i, c.change), fault(c.code, i))
			}
			if i > 0 {
				wantBad(t, "a name twice", changed(set, i, func(t *api.Task) { t.Name = "a" }), fault(api.ErrTwice, i))
			}
		}
	}
	wantBad(t, "none", nil, fault(api.ErrMany, 0))
	wantBad(t, "none", []api.Task{}, fault(api.ErrMany, 0))
	wantBad(t, "one more than MaxTasks", several(api.MaxTasks+1), fault(api.ErrMany, 0))
	wantBad(t, "many", several(26), fault(api.ErrMany, 0))
	bad := changed(changed(several(4), 1, func(t *api.Task) { t.D, t.C = 3, 4 }), 2, func(t *api.Task) { t.Name = "" })
	wantBad(t, "two", bad, fault(api.ErrOrder, 1))
	wantBusy(t, "one", several(1), 1, api.Fault{})
	wantBusy(t, "MaxTasks", several(api.MaxTasks), api.MaxTasks, api.Fault{})
	wantDemand(t, "MaxTasks", several(api.MaxTasks), 10, api.MaxTasks, api.Fault{})
	wantFits(t, "MaxTasks", several(api.MaxTasks), api.Fault{})
}

func TestSetsOnlyRead(t *testing.T) {
	room := append(three(), task(77, 1), task(0, 0))
	whole := slices.Clone(room)
	set := room[:3]
	for range 2 {
		wantDemand(t, "room", set, 12, 10, api.Fault{})
		wantBusy(t, "room", set, 10, api.Fault{})
		wantFits(t, "room", set, api.Fault{})
		wantFits(t, "no room", set[:3:3], api.Fault{})
	}
	if !slices.Equal(room, whole) {
		t.Errorf("changed: %v, want %v", room, whole)
	}
}
