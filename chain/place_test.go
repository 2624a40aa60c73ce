package chain_test

import (
	"math"
	"slices"
	"testing"

	"punctual/api"
	"punctual/chain"
)

// uses are parts that begin a chain each, come every ten ticks, and work so long.
func uses(c ...int) []api.Part {
	var l []api.Part
	for _, n := range c {
		l = append(l, root(0, n, 10, 1))
	}
	return l
}

func TestPlaceGiven(t *testing.T) {
	wantPlace(t, "of the tests that are given", given(), 2, 0, 0, 0, 1)
}

func TestPlace(t *testing.T) {
	for cores := 1; cores <= api.MaxCores; cores++ {
		wantPlace(t, "one part", uses(10), cores, 0)
		wantPlace(t, "two that fit together", uses(4, 6), cores, 0, 0)
		wantPlace(t, "five that fit together", uses(2, 2, 2, 2, 2), cores, 0, 0, 0, 0, 0)
		wantPlace(t, "a chain that fits on one core", parts(root(3, 1, 100, 1), told(0, 9, 3, 1, 100, 1)), cores, 0, 0)
	}
	no := fault(api.ErrNone, 0)
	wantNoPlace(t, "one core for two that don't fit together", uses(6, 5), 1, no)
	wantPlace(t, "two cores", uses(6, 5), 2, 0, 1)
	wantPlace(t, "more cores than parts", uses(6, 5), 3, 0, 1)
	wantPlace(t, "more cores than parts", uses(6, 5), 4, 0, 1)
	wantPlace(t, "the first of several ways", uses(5, 5, 5), 2, 0, 0, 1)
	wantPlace(t, "the first of several ways", uses(5, 5, 5), 4, 0, 0, 1)
	wantPlace(t, "the first of several ways", uses(6, 5, 5, 4), 2, 0, 1, 1, 0)
	wantPlace(t, "the first of several ways", uses(6, 5, 4, 5), 2, 0, 1, 0, 1)
	wantPlace(t, "what fits at first doesn't fit at last", uses(2, 3, 7, 8), 2, 0, 1, 1, 0)
	wantPlace(t, "what fits at first fits with one more core", uses(2, 3, 7, 8), 3, 0, 0, 1, 2)
	wantPlace(t, "a core for each", uses(6, 6, 6, 6), 4, 0, 1, 2, 3)
	wantNoPlace(t, "a core too few", uses(6, 6, 6, 6), 3, no)
	wantNoPlace(t, "five that need a core each", uses(6, 6, 6, 6, 6), 4, no)
	wantPlace(t, "five", uses(6, 6, 6, 6, 4), 4, 0, 1, 2, 3, 0)
	wantPlace(t, "five", uses(6, 6, 6, 4, 6), 4, 0, 1, 2, 0, 3)
	both := parts(root(0, 5, 12, 1), after(0, 0, 5, 12, 1))
	wantNoPlace(t, "a chain too long for one core", both, 1, no)
	wantPlace(t, "a chain too long for one core", both, 2, 0, 1)
	bus := parts(root(0, 1, 10, 1), told(0, 6, 1, 1, 10, 1), told(0, 6, 2, 1, 10, 1))
	wantNoPlace(t, "the bus asks too much, on whichever cores", bus, 4, no)
	// On one core the one that goes ahead makes the other one late; the other way round it doesn't.
	wantPlace(t, "one that waits in time", parts(due(4, root(0, 3, 10, 2)), due(9, root(0, 4, 10, 1))), 2, 0, 0)
	wantPlace(t, "one that can't wait", parts(due(4, root(0, 3, 10, 1)), due(9, root(0, 4, 10, 2))), 2, 0, 1)
}

// TestPlaceForgets: on which cores they lie at first doesn't matter.
func TestPlaceForgets(t *testing.T) {
	for first := range api.MaxCores {
		for second := range api.MaxCores {
			wantPlace(t, "wherever they lie", onCores(uses(6, 5, 4), first, second, first), 2, 0, 1, 0)
			wantPlace(t, "wherever they lie", onCores(uses(6, 5, 4), second, first, second), 4, 0, 1, 0)
		}
	}
}

func TestPlaceFaults(t *testing.T) {
	for n := 1; n <= api.MaxTasks; n++ {
		l := alone(n)
		for _, cores := range ints(-1, 0, api.MaxCores+1, math.MinInt, math.MaxInt) {
			wantNoPlace(t, "no such number of cores", l, cores, fault(api.ErrRange, 0))
		}
		for cores := 1; cores <= api.MaxCores; cores++ {
			if n <= 5 {
				wantPlace(t, "up to five parts", l, cores, make([]int, n)...)
			} else {
				wantNoPlace(t, "more than five parts", l, cores, fault(api.ErrMany, 0))
			}
		}
	}
	wantNoPlace(t, "more than five parts that don't fit", slices.Repeat(uses(10), 6), 4, fault(api.ErrMany, 0))
	bad := changed(alone(6), 5, func(p *api.Part) { p.Core = api.MaxCores })
	wantNoPlace(t, "a core that isn't one, ahead of all", bad, 0, fault(api.ErrRange, 5))
	wantNoPlace(t, "a core that isn't one, ahead of all", bad, 1, fault(api.ErrRange, 5))
}

// TestPlaceAllWays is P18.3 of made parts: all ways are tried.
func TestPlaceAllWays(t *testing.T) {
	m := newMaker(184)
	var found [api.MaxCores + 1]int
	none, later := 0, 0
	for range 8000 {
		l, cores := m.parts(m.within(1, 5), api.MaxCores, m.one(8, 20, 100, 1000), m.one(40, 80, 120, 160)), m.one(1, 2, 3, 4, 4)
		want, f := otherPlace(l, cores)
		if f.Code != api.OK {
			none++
			wantNoPlace(t, "no way", l, cores, f)
			continue
		}
		wantPlace(t, "the first way", l, cores, want...)
		found[slices.Max(want)+1]++
		if !slices.IsSorted(want) {
			later++
		}
	}
	if none < 200 || slices.Min(found[1:]) < 20 || later < 50 {
		t.Errorf("on so many cores: %v, in no way: %d; back to a lower one: %d", found, none, later)
	}
}

// TestPlaceIsNew: what is answered is new each time, and what is handed in stays as it is.
func TestPlaceIsNew(t *testing.T) {
	room := onCores(uses(6, 5, 4, 1, 1), 3, 2, 1, 3, 2)
	kept := slices.Clone(room)
	for range 3 {
		got, f := chain.Place(room[:3], 2)
		if f != (api.Fault{}) || !slices.Equal(got, ints(0, 1, 0)) || !slices.Equal(room, kept) {
			t.Fatalf("%v %v (%v)", got, f, room)
		}
		for i := range got[:cap(got)] {
			got[:cap(got)][i] = -7
		}
	}
}
