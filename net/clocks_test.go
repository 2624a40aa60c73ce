package net_test

import (
	"slices"
	"testing"

	"punctual/api"
	"punctual/net"
)

func TestMiddle(t *testing.T) {
	for _, c := range []struct {
		what  string
		heard []int
		liars int
		want  int
	}{
		{"of the document", ints(10, 12, 11, 1000), 1, 11},
		{"one", ints(5), 0, 5},
		{"one below 0", ints(-5), 0, -5},
		{"two", ints(3, 7), 0, 5},
		{"two, falling", ints(7, 3), 0, 5},
		{"rounded down", ints(3, 8), 0, 5},
		{"the least and the greatest, not the sum of all", ints(0, 0, 0, 0, 10), 0, 5},
		{"not the one in the midst", ints(0, 1, 10), 0, 5},
		{"below 0", ints(-3, -8), 0, -6},
		{"below 0, just a half", ints(-1, 0), 0, -1},
		{"below 0, just a half", ints(-3, 2), 0, -1},
		{"above 0, just a half", ints(3, -2), 0, 0},
		{"nought", ints(-4, 4), 0, 0},
		{"all the same", ints(7, 7, 7, 7), 1, 7},
		{"a liar below", ints(10, 12, 11, -1000), 1, 10},
		{"the least and the greatest ones are left out, though nobody lies", ints(1, 5, 8, 100), 1, 6},
		{"one at a time, not all that are the same", ints(1, 1, 9, 9), 1, 5},
		{"one at a time, not all that are the same", ints(1, 1, 1, 9), 1, 1},
		{"fewer liars than there may be", ints(1, 2, 4, 6, 8, 9, 100), 1, 5},
		{"two liars", ints(1, 2, 4, 6, 9, 9, 100), 2, 6},
		{"no liars", ints(1, 2, 4, 6, 8, 9, 100), 0, 50},
		{"three liars of ten", ints(9, 8, 7, 6, 5, 4, 3, 2, 1, 0), 3, 4},
		{"three liars of ten", ints(-9, -8, -7, -6, -5, -4, -3, -2, -1, 0), 3, -5},
		{"both ends", ints(-farthest, farthest), 0, 0},
		{"the upper end", ints(farthest, farthest), 0, farthest},
		{"the lower end", ints(-farthest, -farthest), 0, -farthest},
		{"beside the upper end", ints(farthest, farthest-1), 0, farthest - 1},
		{"beside the lower end", ints(-farthest, -farthest+1), 0, -farthest},
	} {
		wantMiddle(t, c.what, c.heard, c.liars, c.want)
	}
}

// TestMiddleLiars: fewer than a third may lie.
func TestMiddleLiars(t *testing.T) {
	for n := 1; n <= api.MaxNodes; n++ {
		heard := make([]int, n)
		for i := range heard {
			heard[i] = 10 * i
		}
		for liars := range n + 2 {
			if 3*liars+1 <= n {
				wantMiddle(t, "liars", heard, liars, 5*(n-1))
			} else {
				wantNoMiddle(t, "liars", heard, liars, api.ErrNone)
			}
		}
		// Three times these, and one more, go round to numbers that are small, or below 0.
		round := ints(1<<62, 1<<62+1, 3<<61, 6148914691236517205, -6148914691236517205, 6148914691236517206, 3074457345618258603)
		for _, liars := range append(append(far(), -1, -2, -3), round...) {
			wantNoMiddle(t, "liars", heard, liars, api.ErrNone)
		}
	}
}

// TestMiddleWrong: first how many there are, then what was heard, then the liars.
func TestMiddleWrong(t *testing.T) {
	anyLiars := append(far(), -1, 0, 1, 3, 4)
	for _, liars := range anyLiars {
		wantNoMiddle(t, "none", nil, liars, api.ErrMany)
		wantNoMiddle(t, "none", ints(), liars, api.ErrMany)
		for _, n := range ints(api.MaxNodes+1, api.MaxNodes+2, 100) {
			wantNoMiddle(t, "too many", make([]int, n), liars, api.ErrMany)
			wantNoMiddle(t, "too many, and one too far", with(make([]int, n), n-1, farthest+1), liars, api.ErrMany)
		}
		for n := 1; n <= api.MaxNodes; n++ {
			for i := range n {
				for _, said := range append(far(), farthest+1, -farthest-1) {
					wantNoMiddle(t, "too far", with(make([]int, n), i, said), liars, api.ErrRange)
				}
			}
		}
	}
	for n := 1; n <= api.MaxNodes; n++ {
		for i := range n {
			for _, said := range ints(farthest, -farthest) {
				heard := with(make([]int, n), i, said)
				wantMiddle(t, "as far as may be", heard, 0, otherMiddle(heard, 0))
			}
		}
	}
}

// TestMiddleAnotherWay: it is what the rules say word by word, and doesn't hang on the order of what is heard.
func TestMiddleAnotherWay(t *testing.T) {
	m := newMaker(160)
	odd := 0
	for range 20000 {
		heard := make([]int, m.within(1, api.MaxNodes))
		about, wide := m.one(0, 0, -30, farthest/2, -farthest/2), m.one(1, 3, 20, farthest/2)
		for i := range heard {
			heard[i] = about + m.within(-wide, wide)
		}
		for liars := range (len(heard)-1)/3 + 1 {
			want := otherMiddle(heard, liars)
			wantMiddle(t, "made", heard, liars, want)
			slices.Sort(heard)
			wantMiddle(t, "made, rising", heard, liars, want)
			if sum := heard[liars] + heard[len(heard)-1-liars]; sum < 0 && sum%2 != 0 {
				odd++
			}
			slices.Reverse(heard)
			wantMiddle(t, "made, falling", heard, liars, want)
			m.Shuffle(len(heard), func(a, b int) { heard[a], heard[b] = heard[b], heard[a] })
			wantMiddle(t, "made, in another order", heard, liars, want)
		}
	}
	if odd < 3000 {
		t.Errorf("%d odd sums below 0", odd)
	}
}

// TestMiddleShort: all lists of up to five of few numbers.
func TestMiddleShort(t *testing.T) {
	var lay func(heard []int)
	lay = func(heard []int) {
		if len(heard) > 0 {
			for liars := range (len(heard)-1)/3 + 1 {
				wantMiddle(t, "short", heard, liars, otherMiddle(heard, liars))
			}
		}
		if len(heard) == 5 {
			return
		}
		for n := -3; n <= 2; n++ {
			lay(append(slices.Clip(heard), n))
		}
	}
	lay(nil)
}

func TestRound(t *testing.T) {
	for _, c := range []struct {
		what  string
		heard [][]int
		liars int
		drift []int
		want  []int
	}{
		{"of the document's tests", lists(ints(5, 7), ints(6, 8)), 0, ints(1, -1), ints(7, 6)},
		{"one", lists(ints(5)), 0, ints(0), ints(5)},
		{"one that drifts", lists(ints(5)), 0, ints(-8), ints(-3)},
		{"rounded down, and then the drift", lists(ints(-1, -2), ints(0, 1)), 0, ints(1, -1), ints(-1, -1)},
		{"lists that differ", lists(ints(10, 12, 11, 1000), ints(10, 12, 11, -1000), ints(10, 12, 11, 0), ints(0, 0, 0, 0)), 1, ints(0, 0, 0, 0), ints(11, 10, 10, 0)},
		{"lists that differ, and drifts that do", lists(ints(10, 12, 11, 1000), ints(10, 12, 11, -1000), ints(10, 12, 11, 0), ints(0, 0, 0, 0)), 1, ints(1, 2, -3, 4), ints(12, 12, 7, 4)},
		{"with no liars all are asked", lists(ints(10, 12, 11, 1000), ints(10, 12, 11, -1000), ints(10, 12, 11, 0), ints(0, 0, 0, 0)), 0, ints(0, 0, 0, 0), ints(505, -494, 6, 0)},
		{"as far as may be", lists(ints(farthest, farthest), ints(-farthest, -farthest)), 0, ints(farthest, -farthest), ints(2*farthest, -2*farthest)},
		{"and back", lists(ints(farthest, farthest), ints(-farthest, -farthest)), 0, ints(-farthest, farthest), ints(0, 0)},
	} {
		wantRound(t, c.what, c.heard, c.liars, c.drift, c.want...)
	}
	for n := 1; n <= api.MaxNodes; n++ {
		heard, drift := square(n), make([]int, n)
		for i := range drift {
			drift[i] = i
			for k := range heard[i] {
				heard[i][k] = 100 * i
			}
		}
		for liars := range (n-1)/3 + 1 {
			next, f := net.Round(heard, liars, drift)
			if f != (api.Fault{}) || len(next) != n {
				t.Fatalf("Round of %d, %d: %v %v", n, liars, next, f)
			}
			for i, said := range next {
				if said != 101*i {
					t.Errorf("Round of %d, %d: %v", n, liars, next)
				}
			}
		}
	}
}

// square are n lists of n times 0.
func square(n int) [][]int {
	all := make([][]int, n)
	for i := range all {
		all[i] = make([]int, n)
	}
	return all
}

// hears is a copy of lists of which one is another one.
func hears(heard [][]int, i int, l []int) [][]int {
	return changed(heard, i, func(e *[]int) { *e = l })
}

// TestRoundHowMany is told ahead of all else.
func TestRoundHowMany(t *testing.T) {
	for _, liars := range append(far(), -1, 0, 1) {
		for _, drift := range lists(nil, ints(), ints(0), ints(farthest+1)) {
			wantNoRound(t, "none", nil, liars, drift, fault(api.ErrMany, 0))
			wantNoRound(t, "none", lists(), liars, drift, fault(api.ErrMany, 0))
		}
		for _, n := range ints(api.MaxNodes+1, api.MaxNodes+2, 100) {
			wantNoRound(t, "too many", square(n), liars, make([]int, n), fault(api.ErrMany, 0))
			wantNoRound(t, "too many, and one of another length", hears(square(n), 0, nil), liars, make([]int, n), fault(api.ErrMany, 0))
			wantNoRound(t, "too many, and too far", square(n), liars, with(make([]int, n), 0, farthest+1), fault(api.ErrMany, 0))
		}
		for n := 1; n <= api.MaxNodes; n++ {
			for _, drift := range lists(nil, make([]int, n-1), make([]int, n+1), make([]int, 100)) {
				wantNoRound(t, "drift of another length", square(n), liars, drift, fault(api.ErrMany, 0))
				wantNoRound(t, "drift of another length, and a list, too", hears(square(n), 0, ints()), liars, drift, fault(api.ErrMany, 0))
				wantNoRound(t, "drift of another length, and too far", hears(square(n), 0, slices.Repeat(ints(farthest+1), n)), liars, drift, fault(api.ErrMany, 0))
			}
		}
	}
}

// TestRoundWrong: then clock by clock, of each one its list's length and its drift, then what Middle says.
func TestRoundWrong(t *testing.T) {
	for n := 1; n <= api.MaxNodes; n++ {
		good, still := square(n), make([]int, n)
		many := (n-1)/3 + 1
		notLiars := append(far(), -1, many, many+1)
		for _, liars := range notLiars {
			wantNoRound(t, "liars", good, liars, still, fault(api.ErrNone, 0))
		}
		for i := range n {
			for _, liars := range append(notLiars, 0, many-1) {
				want := fault(api.ErrRange, i)
				if i > 0 && slices.Contains(notLiars, liars) {
					want = fault(api.ErrNone, 0) // of the first clock that is told already
				}
				for _, l := range lists(nil, make([]int, n-1), make([]int, n+1), make([]int, api.MaxNodes+1)) {
					if len(l) != n {
						wantNoRound(t, "a list of another length", hears(good, i, l), liars, still, want)
						wantNoRound(t, "a list of another length, and drift", hears(good, i, l), liars, with(still, i, farthest+1), want)
					}
				}
				for _, d := range append(far(), farthest+1, -farthest-1) {
					wantNoRound(t, "drift", good, liars, with(still, i, d), want)
					for k := range n {
						wantNoRound(t, "what is heard", hears(good, i, with(still, k, d)), liars, still, want)
					}
				}
			}
		}
	}
	for n := 2; n <= api.MaxNodes; n++ {
		good, still := square(n), make([]int, n)
		for i := range n {
			for k := i + 1; k < n; k++ {
				far := with(still, k, farthest+1)
				wantNoRound(t, "heard, then drift", hears(good, i, far), 0, far, fault(api.ErrRange, i))
				wantNoRound(t, "heard, then a list", hears(hears(good, i, far), k, nil), 0, still, fault(api.ErrRange, i))
				wantNoRound(t, "a list, then drift", hears(good, i, still[1:]), 0, far, fault(api.ErrRange, i))
				wantNoRound(t, "drift, then heard", hears(good, k, far), 0, with(still, i, -farthest-1), fault(api.ErrRange, i))
			}
		}
	}
}

// TestRoundAnotherWay: each clock takes the middle of its own list.
func TestRoundAnotherWay(t *testing.T) {
	m := newMaker(161)
	for range 5000 {
		n := m.within(1, api.MaxNodes)
		heard, drift, want := square(n), make([]int, n), make([]int, n)
		liars := m.Intn((n-1)/3 + 1)
		wide := m.one(2, 20, farthest)
		for i := range n {
			for k := range n {
				heard[i][k] = m.within(-wide, wide)
			}
			drift[i] = m.within(-wide, wide)
			want[i] = otherMiddle(heard[i], liars) + drift[i]
		}
		wantRound(t, "made", heard, liars, drift, want...)
	}
}

// TestClocksOnlyRead: what is handed in, and the room behind it, stays as it is, and each answer is new.
func TestClocksOnlyRead(t *testing.T) {
	m := newMaker(162)
	for range 300 {
		n := m.within(1, api.MaxNodes)
		room := square(api.MaxNodes + 2)
		var heard, kept [][]int
		for _, l := range room {
			for k := range l {
				l[k] = m.within(-50, 50)
			}
			heard, kept = append(heard, l[:n]), append(kept, slices.Clone(l))
		}
		drift := slices.Clone(room[0])
		was := slices.Clone(drift)
		next, f := net.Round(heard[:n], (n-1)/3, drift[:n])
		if f != (api.Fault{}) {
			t.Fatalf("Round: %v", f)
		}
		again, _ := net.Round(heard[:n], (n-1)/3, drift[:n])
		fill(next, 999)
		if slices.Contains(again, 999) {
			t.Fatalf("two answers share memory")
		}
		net.Middle(heard[n], (n-1)/3)
		for i, l := range room {
			if !slices.Equal(l, kept[i]) {
				t.Fatalf("changed: %v, was %v", l, kept[i])
			}
		}
		if !slices.Equal(drift, was) {
			t.Fatalf("changed: %v, was %v", drift, was)
		}
	}
}
