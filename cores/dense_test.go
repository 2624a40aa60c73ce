package cores_test

import (
	"math/big"
	"testing"

	"punctual/api"
	"punctual/cores"
)

func TestDense(t *testing.T) {
	for _, c := range []struct {
		what string
		set  []api.Task
		n    int
		want bool
	}{
		{"one core, little", tenths(1), 1, true},
		{"one core, just all", tenths(3, 3, 4), 1, true},
		{"one core, a bit more", tenths(3, 4, 4), 1, false},
		{"one core, one alone", tenths(10), 1, true},
		{"one core, D below T", named(due(2, 10, 4), due(2, 10, 4)), 1, true},
		{"one core, D a tick less", named(due(2, 10, 4), due(2, 10, 3)), 1, false},
		{"one that takes all it has, on any core", tenths(10), 2, true},
		{"one that takes all it has, on any core", tenths(10), 4, true},
		{"two that take all they have", tenths(10, 10), 2, false},
		{"one that takes all it has beside a small one", tenths(10, 1), 4, false},
		{"two cores, just what is allowed", tenths(4, 4, 4, 4), 2, true},
		{"two cores, a bit more", append(tenths(4, 4, 4, 4), api.Task{Name: "z", C: 1, T: 10000, D: 10000}), 2, false},
		{"two cores, one great one, just", tenths(6, 6, 2), 2, true},
		{"two cores, one great one, more", tenths(6, 6, 3), 2, false},
		{"the greatest one comes last", tenths(2, 6, 6), 2, true},
		{"the greatest one comes last, more", tenths(3, 6, 6), 2, false},
		{"three cores, just what is allowed", tenths(5, 5, 5, 5), 3, true},
		{"three cores, more", tenths(5, 5, 5, 6), 3, false},
		{"four cores, just what is allowed", tenths(4, 4, 4, 4, 4, 4, 4), 4, true},
		{"four cores, more", tenths(4, 4, 4, 4, 4, 4, 4, 1), 4, false},
		{"eight, on four cores", tenths(3, 3, 3, 3, 3, 3, 3, 3), 4, true},
		{"D counts, not T", named(due(2, 100, 5), due(2, 100, 5), due(2, 100, 5), due(2, 100, 5)), 2, true},
		{"D counts, not T", named(due(2, 100, 4), due(2, 100, 4), due(2, 100, 4)), 2, true},
		{"D counts, not T", named(due(2, 100, 3), due(2, 100, 4), due(2, 100, 4)), 2, false},
		{"as short as may be", named(task(1, 1)), 4, true},
		{"as long as may be", named(task(api.MaxTime, api.MaxTime)), 4, true},
		{"as little as may be", named(task(1, api.MaxTime)), 1, true},
		{"O and P aren't asked", named(api.Task{C: 4, T: 10, D: 10, O: api.MaxTime, P: 1000}), 1, true},
	} {
		wantDense(t, c.what, c.set, c.n, c.want)
	}
}

// TestDenseOrder: the first task that isn't of the kind is told.
func TestDenseOrder(t *testing.T) {
	eight := tenths(1, 1, 1, 1, 1, 1, 1, 1)
	long := func(t *api.Task) { t.D = t.T + 1 }
	eachCores(func(n int) {
		for i := range eight {
			with := func(change func(t *api.Task)) []api.Task { return changed(eight, i, change) }
			wantDense(t, "J 0, D at T", eight, n, true)
			wantNoDense(t, "J 1", with(func(t *api.Task) { t.J = 1 }), n, fault(api.ErrOrder, i))
			wantNoDense(t, "as great a J as may be", with(func(t *api.Task) { t.J = api.MaxTime }), n, fault(api.ErrOrder, i))
			wantNoDense(t, "D at T + 1", with(long), n, fault(api.ErrOrder, i))
			wantNoDense(t, "as great a D as may be", with(func(t *api.Task) { t.D = api.MaxTime }), n, fault(api.ErrOrder, i))
			wantNoDense(t, "both", changed(with(long), i, func(t *api.Task) { t.J = 1 }), n, fault(api.ErrOrder, i))
			wantDense(t, "D at T - 1", with(func(t *api.Task) { t.D = t.T - 1 }), n, true)
			for k := i + 1; k < len(eight); k++ {
				wantNoDense(t, "D, then J", changed(with(long), k, func(t *api.Task) { t.J = 1 }), n, fault(api.ErrOrder, i))
				wantNoDense(t, "J, then D", changed(with(func(t *api.Task) { t.J = 1 }), k, long), n, fault(api.ErrOrder, i))
			}
		}
		// It is told, too, where the sum is far too great.
		wantNoDense(t, "too much", changed(tenths(10, 10, 10, 10, 10), 4, long), n, fault(api.ErrOrder, 4))
		wantNoDense(t, "too much, and J", changed(tenths(10, 10, 10, 10, 10), 3, func(t *api.Task) { t.J = 1 }), n, fault(api.ErrOrder, 3))
	})
}

func TestDenseAnotherWay(t *testing.T) {
	m := newMaker(144)
	seen := map[int]int{}
	for range 20000 {
		n := m.within(1, api.MaxCores)
		set := m.set(m.within(1, api.MaxTasks), m.one(4, 12, 10000), n*m.one(20, 40, 60))
		sign := spare(set, n).Sign()
		seen[sign]++
		wantDense(t, "made", set, n, sign >= 0)
	}
	if seen[1] < 3000 || seen[-1] < 3000 || seen[0] < 100 {
		t.Errorf("true, just so: %d; true: %d; false: %d", seen[0], seen[1], seen[-1])
	}
}

// TestDenseJust: the last task takes just what is left, or a 9240th more or less.
func TestDenseJust(t *testing.T) {
	m := newMaker(145)
	parts := ints(9240, 4620, 3080, 2310, 1848, 1540, 1320, 1155, 840, 770, 616)
	seen := 0
	for range 20000 {
		n := m.within(1, api.MaxCores)
		var set []api.Task
		for range m.within(1, api.MaxTasks-1) {
			d := m.one(parts...)
			set = append(set, due(m.within(1, max(1, d*m.one(20, 50, 90)/100)), m.within(d, api.MaxTime), d))
		}
		left := spare(set, n)
		left.Mul(left, big.NewRat(9240, 1))
		if !left.IsInt() || !left.Num().IsInt64() {
			t.Fatalf("%v of %v", left, set)
		}
		c := int(left.Num().Int64())
		greater := false // what is left must not be more than the greatest one: that would change what is allowed
		for _, t := range set {
			greater = greater || t.C*9240 >= (c+1)*t.D
		}
		if c < 2 || !greater {
			continue
		}
		seen++
		for more := -1; more <= 1; more++ {
			wantDense(t, "beside what is left", named(append(set[:len(set):len(set)], due(c+more, 9999, 9240))...), n, more <= 0)
		}
	}
	if seen < 1000 {
		t.Errorf("seen: %d", seen)
	}
}

// primes are the greatest ones that may stand as a D.
func primes(n int) []int {
	var l []int
	for p := api.MaxTime; len(l) < n; p-- {
		if big.NewInt(int64(p)).ProbablyPrime(0) {
			l = append(l, p)
		}
	}
	return l
}

// near makes a set of which what is allowed, less the sum, is a whole number and one part of the product of all D, which are primes: no number of so few digits as a float has could tell that from nothing.
func near(ds []int, n int) []api.Task {
	product := big.NewInt(1)
	for _, d := range ds {
		product.Mul(product, big.NewInt(int64(d)))
	}
	var set []api.Task
	for i, d := range ds {
		prime := big.NewInt(int64(d))
		rest := new(big.Int).Quo(product, prime)
		if i == 0 {
			rest.Mul(rest, big.NewInt(int64(n))) // the first one is to be the greatest: it counts so often
		}
		c := new(big.Int).ModInverse(rest.Mod(rest, prime), prime)
		set = append(set, due(d-int(c.Int64()), d, d))
	}
	return named(set...)
}

// TestDenseNear: numerators and denominators of twenty digits and more decide.
func TestDenseNear(t *testing.T) {
	m := newMaker(146)
	all := primes(400)
	tiny := big.NewRat(1, 1<<62)
	seen := [api.MaxCores + 1][2]int{}
	for range 60000 {
		n := m.within(1, api.MaxCores)
		var ds []int
		for _, k := range m.Perm(len(all))[:m.within(5, api.MaxTasks)] {
			ds = append(ds, all[k])
		}
		set := near(ds, n)
		if m.Intn(2) == 0 {
			for i := range set {
				set[i].C = set[i].D - set[i].C
			}
		}
		left := spare(set, n)
		if new(big.Rat).Abs(left).Cmp(tiny) > 0 {
			continue
		}
		seen[n][(1+left.Sign())/2]++
		wantDense(t, "near", set, n, left.Sign() >= 0)
	}
	for n, l := range seen {
		if n > 0 && min(l[0], l[1]) < 20 {
			t.Errorf("on %d: a bit above, a bit below: %v", n, l)
		}
	}
}

// TestDenseHoldsOnMore: what is allowed on some cores is allowed on more.
func TestDenseHoldsOnMore(t *testing.T) {
	m := newMaker(147)
	for range 3000 {
		set := m.set(m.within(1, api.MaxTasks), m.one(4, 30), m.one(50, 100, 200))
		last := false
		eachCores(func(n int) {
			now, f := cores.Dense(set, n)
			if f != (api.Fault{}) || last && !now {
				t.Errorf("Dense on %d: %v %v (%v)", n, now, f, set)
			}
			last = now
		})
	}
}
