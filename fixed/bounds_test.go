package fixed_test

import (
	"slices"
	"testing"

	"punctual/api"
	"punctual/fixed"
)

// same are n tasks of one C and T.
func same(n, c, t int) []api.Task { return named(slices.Repeat([]api.Task{task(c, t, 1)}, n)...) }

// steps are n tasks of C 1 and T from n on: each and 1 is a step of a way from n to 2 n, so that the product is just 2.
func steps(n int) []api.Task {
	var set []api.Task
	for i := range n {
		set = append(set, task(1, n+i, 0))
	}
	return named(set...)
}

func TestSum(t *testing.T) {
	for _, c := range []struct {
		what string
		set  []api.Task
		want bool
	}{
		{"one with all the time: just 2", same(1, 1, 1), true},
		{"one with all the time: just 2", same(1, 10000, 10000), true},
		{"one with a part of it", same(1, 1, 10000), true},
		{"of the document", three(), false},
		{"two of the document", three()[:2], true},
		// The square root of 2 lies between such fractions, ever more closely.
		{"two, just below 2", same(2, 2, 5), true},
		{"two, just above 2", same(2, 5, 12), false},
		{"two, just below 2", same(2, 408, 985), true},
		{"two, just above 2", same(2, 169, 408), false},
		{"two, just below 2", same(2, 2378, 5741), true},
		{"two, just above 2", same(2, 985, 2378), false},
		{"two that aren't alike, just above 2", named(task(4756, 5741, 0), task(1, 10000, 0)), false},
		{"two that aren't alike, just below 2", named(task(4755, 5741, 0), task(1, 5741, 0)), true},
		{"two that aren't alike, one of them nearly idle", named(task(8284, 10000, 0), task(1, 10000, 0)), false},
		{"two that aren't alike, one of them nearly idle", named(task(8283, 10000, 0), task(1, 10000, 0)), true},
		{"three, below 2", same(3, 2599, 10000), true},
		{"three, above 2", same(3, 2600, 10000), false},
		{"eight, below 2", same(8, 905, 10000), true},
		{"eight, above 2", same(8, 906, 10000), false},
		{"eight with next to nothing", same(8, 1, 10000), true},
		{"eight with all the time", same(8, 1, 1), false},
		{"eight with all the time together", same(8, 1, 8), false},
		{"a product of just 2", steps(2), false},
		{"a product of just 2", steps(8), false},
	} {
		wantSum(t, c.what, c.set, c.want, api.Fault{})
	}
}

func TestProduct(t *testing.T) {
	for _, c := range []struct {
		what string
		set  []api.Task
		want bool
	}{
		{"one with all the time: just 2", same(1, 1, 1), true},
		{"one with all the time: just 2", same(1, 10000, 10000), true},
		{"one with a part of it", same(1, 1, 10000), true},
		{"of the document", three(), false},
		{"two of the document", three()[:2], true},
		{"two, just below 2", same(2, 2378, 5741), true},
		{"two, just above 2", same(2, 985, 2378), false},
		{"two, just 2", named(task(1, 2, 0), task(1, 3, 0)), true},
		{"two, one above it", named(task(5000, 10000, 0), task(3334, 10000, 0)), false},
		{"two, one below it", named(task(5000, 10000, 0), task(3333, 10000, 0)), true},
		{"two, just 2", named(task(1, 9999, 0), task(9998, 10000, 0)), true},
		{"two, one above it", named(task(1, 9998, 0), task(9998, 10000, 0)), false},
		{"two, one below it", named(task(1, 10000, 0), task(9998, 10000, 0)), true},
		{"all the time, and next to nothing", named(task(1, 1, 0), task(1, 10000, 0)), false},
		{"three, below 2", same(3, 2599, 10000), true},
		{"three, above 2", same(3, 2600, 10000), false},
		{"eight, below 2", same(8, 905, 10000), true},
		{"eight, above 2", same(8, 906, 10000), false},
		{"eight with next to nothing", same(8, 1, 10000), true},
		{"eight with all the time", same(8, 1, 1), false},
	} {
		wantProduct(t, c.what, c.set, c.want, api.Fault{})
	}
	for n := 1; n <= api.MaxTasks; n++ {
		wantProduct(t, "just 2", steps(n), true, api.Fault{})
		for i := range n {
			// With 600 for each 1 above and below the bar, one is little.
			fine := steps(n)
			for k := range fine {
				fine[k].C, fine[k].T, fine[k].D = 600, 600*fine[k].T, 600*fine[k].T
			}
			wantProduct(t, "just 2, finely", fine, true, api.Fault{})
			wantProduct(t, "one less", changed(fine, i, func(t *api.Task) { t.C-- }), true, api.Fault{})
			if n > 1 {
				wantProduct(t, "one more", changed(fine, i, func(t *api.Task) { t.C++ }), false, api.Fault{})
			}
		}
	}
}

func TestBoundsFaults(t *testing.T) {
	bad := func(what string, set []api.Task, at int) {
		t.Helper()
		wantSum(t, what, set, false, fault(api.ErrOrder, at))
		wantProduct(t, what, set, false, fault(api.ErrOrder, at))
	}
	below := func(t *api.Task) { t.D-- }
	above := func(t *api.Task) { t.D++ }
	late := func(t *api.Task) { t.J = 1 }
	// A set with which both bounds would be true.
	for _, n := range []int{2, 3, api.MaxTasks} {
		set := same(n, 2, 1000)
		wantSum(t, "none", set, true, api.Fault{})
		wantProduct(t, "none", set, true, api.Fault{})
		for i := range n {
			bad("D below T", changed(set, i, below), i)
			bad("D above T", changed(set, i, above), i)
			bad("J", changed(set, i, late), i)
			bad("the greatest J", changed(set, i, func(t *api.Task) { t.J = api.MaxTime }), i)
			for k := i + 1; k < n; k++ {
				bad("D, then J", changed(changed(set, k, late), i, below), i)
				bad("J, then D", changed(changed(set, k, above), i, late), i)
			}
			// Neither O nor P is asked for.
			other := changed(set, i, func(t *api.Task) { t.O, t.P = api.MaxTime, 1000 })
			wantSum(t, "O and P", other, true, api.Fault{})
			wantProduct(t, "O and P", other, true, api.Fault{})
		}
	}
	bad("one alone", named(due(1, 2, 1, 0)), 0)
	bad("where it wouldn't be true, either", changed(same(8, 1, 2), 7, below), 7)
}

func TestBoundsAnotherWay(t *testing.T) {
	m := newMaker(95)
	var seen [2][2]int
	index := map[bool]int{true: 1}
	for range 20000 {
		n := m.within(1, api.MaxTasks)
		set := m.set(n, m.one(10, 100, 10000), m.one(65, 70, 75))
		for i := range set {
			set[i].D = set[i].T
		}
		s, p := otherSum(set), otherProduct(set)
		wantSum(t, "made", set, s, api.Fault{})
		wantProduct(t, "made", set, p, api.Fault{})
		seen[index[s]][index[p]]++
	}
	if min(seen[0][0], seen[0][1], seen[1][1]) < 300 || seen[1][0] > 0 {
		t.Errorf("neither, Product, Sum, both: %v", seen)
	}
}

// TestBoundsShort: all sets of up to three tasks with small numbers.
func TestBoundsShort(t *testing.T) {
	var lay func(set []api.Task)
	lay = func(set []api.Task) {
		if len(set) > 0 {
			set := named(set...)
			wantSum(t, "short", set, otherSum(set), api.Fault{})
			wantProduct(t, "short", set, otherProduct(set), api.Fault{})
		}
		if len(set) == 3 {
			return
		}
		for period := 1; period <= 6; period++ {
			for c := 1; c <= period; c++ {
				lay(append(slices.Clip(set), task(c, period, 0)))
			}
		}
	}
	lay(nil)
}

func TestBoundsOnlyRead(t *testing.T) {
	room := append(three(), named(task(7, 7, 7))...)
	kept := slices.Clone(room)
	fixed.Sum(room[:3])
	fixed.Product(room[:3])
	if !slices.Equal(room, kept) {
		t.Errorf("changed: %v", room)
	}
}
