package cores_test

import (
	"math"
	"slices"
	"testing"

	"punctual/api"
	"punctual/cores"
	"punctual/edf"
	"punctual/tasks"
)

// notCores are numbers that no number of cores is.
func notCores() []int { return ints(0, -1, api.MaxCores+1, math.MinInt, math.MaxInt) }

func TestSpread(t *testing.T) {
	for _, c := range []struct {
		what string
		set  []api.Task
		n    int
		want []int
	}{
		{"one task, one core", tenths(10), 1, ints(0)},
		{"one core, just full", tenths(3, 3, 4), 1, ints(0, 0, 0)},
		{"one task, all cores", tenths(10), api.MaxCores, ints(0)},
		{"all on the first one", tenths(2, 2, 2), 4, ints(0, 0, 0)},
		{"more cores than tasks, each needs its own", tenths(6, 6, 6), 4, ints(0, 1, 2)},
		{"more cores than tasks, two need their own", tenths(6, 5), 4, ints(0, 1)},
		{"as many cores as tasks", tenths(10, 10, 10, 10), 4, ints(0, 1, 2, 3)},
		{"what fits is filled up", tenths(6, 6, 4, 4), 2, ints(0, 1, 0, 1)},
		{"the last one goes back to the first core", tenths(9, 9, 1), 2, ints(0, 1, 0)},
		{"one that fits first must lie further up", tenths(5, 3, 5, 7), 2, ints(0, 1, 0, 1)},
		{"the last one needs a core alone", tenths(2, 3, 5, 10), 2, ints(0, 0, 0, 1)},
		{"the last two need each a core alone", tenths(2, 3, 4, 10, 10), 3, ints(0, 0, 0, 1, 2)},
		{"the second one must make room", tenths(4, 4, 6, 6), 2, ints(0, 1, 0, 1)},
		{"the first three each on its own", tenths(4, 4, 4, 6, 6, 6), 3, ints(0, 1, 2, 0, 1, 2)},
		{"just one way but for the cores' names", tenths(2, 3, 4, 6, 7, 8), 3, ints(0, 1, 2, 2, 1, 0)},
		{"Use says it fits, D says it doesn't", named(due(2, 10, 2), due(2, 10, 2), due(2, 10, 4)), 2, ints(0, 1, 0)},
		{"D above T", named(due(5, 10, 5), due(5, 10, 15)), 2, ints(0, 0)},
		{"J just what is left", named(late(3, 10, 10, 4), due(3, 10, 5)), 2, ints(0, 0)},
		{"J one more", named(late(3, 10, 10, 5), due(3, 10, 5)), 2, ints(0, 1)},
		{"O and P aren't asked", named(api.Task{C: 6, T: 10, D: 10, O: 9, P: 3}, api.Task{C: 6, T: 10, D: 10, P: 3}), 2, ints(0, 1)},
		{"eight, one core", tenths(1, 1, 1, 1, 1, 1, 1, 3), 1, ints(0, 0, 0, 0, 0, 0, 0, 0)},
		{"eight, two cores", tenths(1, 2, 3, 4, 1, 2, 3, 4), 2, ints(0, 0, 0, 0, 1, 1, 1, 1)},
		{"eight, in pairs", tenths(6, 6, 6, 6, 4, 4, 4, 4), 4, ints(0, 1, 2, 3, 0, 1, 2, 3)},
		{"eight, in pairs, the small ones first", tenths(4, 4, 4, 4, 6, 6, 6, 6), 4, ints(0, 1, 2, 3, 0, 1, 2, 3)},
		{"eight, in pairs, the other way round", tenths(1, 2, 3, 4, 6, 7, 8, 9), 4, ints(0, 1, 2, 3, 3, 2, 1, 0)},
		{"eight, of which one needs a core alone", tenths(1, 1, 1, 1, 1, 1, 1, 10), 2, ints(0, 0, 0, 0, 0, 0, 0, 1)},
	} {
		wantSpread(t, c.what, c.set, c.n, c.want...)
	}
}

func TestSpreadNone(t *testing.T) {
	none := fault(api.ErrNone, 0)
	for _, c := range []struct {
		what string
		set  []api.Task
		n    int
	}{
		{"one core, a bit too much", tenths(3, 4, 4), 1},
		{"two cores, a bit too much", tenths(10, 3, 4, 4), 2},
		{"enough together, but none may be cut in two", tenths(6, 6, 6), 2},
		{"enough together, four cores", tenths(6, 6, 6, 6, 6), 4},
		{"five that need each a core alone", tenths(10, 10, 10, 10, 10), 4},
		{"one that uses more than there is", named(api.Task{C: 3, T: 2, D: 5}), 4},
		{"one whose J is too much", named(late(3, 10, 10, 8)), 4},
		{"one that is busy for ever", named(late(1, 1, 10000, 1)), 4},
		{"the last one", append(tenths(1, 1, 1), api.Task{Name: "z", C: 3, T: 2, D: 5}), 4},
		{"eight", tenths(6, 6, 6, 6, 4, 4, 4, 5), 4},
		{"eight, too long", tenths(6, 6, 6, 6, 6, 6, 6, 6), 4},
	} {
		wantNoSpread(t, c.what, c.set, c.n, none)
	}
	// At is 0, too, where Fits has one.
	set := named(due(2, 10, 3), due(2, 10, 3))
	if f := edf.Fits(set); f != fault(api.ErrNone, 3) {
		t.Errorf("Fits: %v", f)
	}
	wantNoSpread(t, "Fits has an At", set, 1, none)
	// Busy for more ticks than are told isn't OK, however little is used.
	set = named(late(1, 1, 10000, 1), task(1, 10))
	if f := edf.Fits(set[:1]); f != fault(api.ErrRange, 0) {
		t.Errorf("Fits: %v", f)
	}
	wantNoSpread(t, "Fits says ErrRange", set, 2, none)
}

// wrongSets are sets with which something is wrong, and what Check says of them.
func wrongSets() map[api.Fault][]api.Task {
	eight := tenths(1, 1, 1, 1, 1, 1, 1, 1)
	return map[api.Fault][]api.Task{
		fault(api.ErrMany, 0):  append(eight, api.Task{Name: "z", C: 1, T: 10, D: 10}),
		fault(api.ErrName, 7):  changed(eight, 7, func(t *api.Task) { t.Name = "A" }),
		fault(api.ErrName, 0):  changed(eight, 0, func(t *api.Task) { t.Name, t.J, t.C = "", 1, 0 }),
		fault(api.ErrTwice, 1): changed(eight, 1, func(t *api.Task) { t.Name, t.J = "a", 1 }),
		fault(api.ErrRange, 0): changed(eight, 0, func(t *api.Task) { t.C = 0 }),
		fault(api.ErrRange, 1): changed(eight, 1, func(t *api.Task) { t.T, t.D = api.MaxTime+1, api.MaxTime+2 }),
		fault(api.ErrRange, 2): changed(eight, 2, func(t *api.Task) { t.D = api.MaxTime + 1 }),
		fault(api.ErrRange, 3): changed(eight, 3, func(t *api.Task) { t.J = -1 }),
		fault(api.ErrRange, 4): changed(eight, 4, func(t *api.Task) { t.J = api.MaxTime + 1 }),
		fault(api.ErrRange, 5): changed(eight, 5, func(t *api.Task) { t.O = -1 }),
		fault(api.ErrRange, 6): changed(eight, 6, func(t *api.Task) { t.P = 1001 }),
		fault(api.ErrRange, 7): changed(eight, 7, func(t *api.Task) { t.D = 0 }),
		fault(api.ErrOrder, 2): changed(changed(eight, 2, func(t *api.Task) { t.D, t.C = 4, 5 }), 0, func(t *api.Task) { t.J = 1 }),
	}
}

// TestWrongSets: what Check says is told ahead of what is wrong with the number of cores, and of all else.
func TestWrongSets(t *testing.T) {
	for want, set := range wrongSets() {
		if f := tasks.Check(set); f != want {
			t.Errorf("Check: %v, want %v", f, want)
		}
		for _, n := range append(notCores(), 1, 2, api.MaxCores) {
			wantNoSpread(t, "a wrong set", set, n, want)
			wantNoDense(t, "a wrong set", set, n, want)
		}
	}
	for _, n := range append(notCores(), 1, api.MaxCores) {
		for _, set := range [][]api.Task{nil, {}} {
			wantNoSpread(t, "no tasks", set, n, fault(api.ErrMany, 0))
			wantNoDense(t, "no tasks", set, n, fault(api.ErrMany, 0))
		}
	}
}

// TestWrongCores: that is told ahead of there being no way, and of what Dense doesn't take.
func TestWrongCores(t *testing.T) {
	for _, n := range notCores() {
		for _, set := range [][]api.Task{tenths(1), tenths(10, 10, 10, 10, 10), named(late(3, 10, 10, 8)), named(due(1, 3, 4)), tenths(1, 1, 1, 1, 1, 1, 1, 1)} {
			wantNoSpread(t, "wrong cores", set, n, fault(api.ErrRange, 0))
			wantNoDense(t, "wrong cores", set, n, fault(api.ErrRange, 0))
		}
	}
	wantSpread(t, "the least number of cores", tenths(1), 1, 0)
	wantSpread(t, "the greatest number of cores", tenths(1), api.MaxCores, 0)
}

// TestSpreadAnotherWay: the first one of all ways is told.
func TestSpreadAnotherWay(t *testing.T) {
	m := newMaker(141)
	no, one, several, back, withJ := 0, 0, 0, 0, 0
	for range 3000 {
		some := m.within(1, api.MaxCores)
		set := m.set(m.within(1, 5), m.one(6, 12, 20), some*m.one(60, 80, 100))
		switch m.Intn(3) {
		case 0:
			set = m.jitter(set)
		case 1:
			some = 2
			set = tenths(m.within(2, 6), m.within(2, 6), m.within(2, 6), m.within(2, 6), m.within(2, 6))
		}
		ways := otherSpread(set, some)
		if len(ways) == 0 {
			wantNoSpread(t, "made", set, some, fault(api.ErrNone, 0))
			no++
			continue
		}
		wantSpread(t, "made", set, some, ways[0]...)
		if slices.ContainsFunc(set, func(t api.Task) bool { return t.J > 0 }) {
			withJ++
		}
		switch greedy, ok := greedily(set, some); {
		case !ok || !slices.Equal(greedy, ways[0]):
			back++
		case len(ways) == 1:
			one++
		default:
			several++
		}
	}
	if no < 500 || one < 200 || several < 1000 || back < 50 || withJ < 200 {
		t.Errorf("none: %d, just one: %d, several: %d, with a step back: %d, with J: %d", no, one, several, back, withJ)
	}
}

// greedily lays each task onto the first core on which it fits: often that is no way, though there is one.
func greedily(set []api.Task, some int) ([]int, bool) {
	lie := make([][]api.Task, some)
	var way []int
	for _, t := range set {
		core := slices.IndexFunc(lie, func(l []api.Task) bool { return edf.Fits(append(slices.Clone(l), t)).Code == api.OK })
		if core < 0 {
			return nil, false
		}
		lie[core] = append(lie[core], t)
		way = append(way, core)
	}
	return way, true
}

// TestSpreadEight: as many tasks as may be; ahead of the way that is told there is none.
func TestSpreadEight(t *testing.T) {
	m := newMaker(142)
	found, no, back := 0, 0, 0
	for range 60 {
		some := m.within(2, api.MaxCores)
		set := m.jitter(m.set(api.MaxTasks, m.one(12, 20), some*m.one(70, 80, 90)))
		fit := fitsOn(set, some)
		var want []int
		eachWay(len(set), some, func(way []int) bool {
			if fit(way) {
				want = slices.Clone(way)
			}
			return want == nil
		})
		if want == nil {
			wantNoSpread(t, "eight", set, some, fault(api.ErrNone, 0))
			no++
			continue
		}
		wantSpread(t, "eight", set, some, want...)
		found++
		if way, ok := greedily(set, some); !ok || !slices.Equal(way, want) {
			back++
		}
	}
	if found < 15 || no < 15 || back < 3 {
		t.Errorf("found: %d, none: %d, with a step back: %d", found, no, back)
	}
}

// TestSpreadShort: all sets of up to four tasks of some tenths, on each number of cores.
func TestSpreadShort(t *testing.T) {
	var all func(l []int)
	all = func(l []int) {
		if len(l) > 0 {
			set := tenths(l...)
			eachCores(func(n int) {
				if ways := otherSpread(set, n); len(ways) > 0 {
					wantSpread(t, "short", set, n, ways[0]...)
				} else {
					wantNoSpread(t, "short", set, n, fault(api.ErrNone, 0))
				}
			})
		}
		if len(l) == 4 {
			return
		}
		for _, c := range ints(3, 4, 5, 7, 10) {
			all(append(slices.Clip(l), c))
		}
	}
	all(nil)
}

// TestSpreadTakesLong: groups of which Fits can say only after long what it says are asked of once each.
func TestSpreadTakesLong(t *testing.T) {
	var set []api.Task
	for i := range api.MaxTasks {
		set = append(set, late(1, 4, api.MaxTime, i%2))
	}
	set = named(set...)
	// Four of them use all of a core, and fit only if none is late.
	wantNoSpread(t, "all of two cores", set, 2, fault(api.ErrNone, 0))
	wantSpread(t, "enough", set, 3, 0, 0, 0, 1, 1, 1, 2, 2)
}

// TestSetsAreOnlyRead: sets and the room behind them stay as they are, and answers are new.
func TestSetsAreOnlyRead(t *testing.T) {
	m := newMaker(143)
	for range 300 {
		room := m.set(api.MaxTasks, 20, 200)
		kept := slices.Clone(room)
		set := room[:m.within(1, api.MaxTasks)]
		eachCores(func(n int) {
			way, f := cores.Spread(set, n)
			again, _ := cores.Spread(set, n)
			if f.Code == api.OK {
				for i := range way {
					way[i] = -9
				}
				if slices.Contains(again, -9) {
					t.Fatalf("two answers share memory")
				}
				wantSpread(t, "again", set, n, again...)
			}
			first, f := cores.Dense(set, n)
			if second, g := cores.Dense(set, n); first != second || f != g {
				t.Errorf("Dense: %v %v, then %v %v", first, f, second, g)
			}
		})
		if !slices.Equal(room, kept) {
			t.Fatalf("changed: %v", room)
		}
	}
}
