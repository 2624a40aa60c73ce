package fixed_test

import (
	"math/big"
	"math/rand"
	"slices"
	"testing"

	"punctual/api"
	"punctual/fixed"
)

func fault(code api.Errno, at int) api.Fault { return api.Fault{Code: code, At: at} }

// task is one whose D is its T.
func task(c, t, p int) api.Task { return api.Task{C: c, T: t, D: t, P: p} }

// due is one with a D of its own.
func due(c, t, d, p int) api.Task { return api.Task{C: c, T: t, D: d, P: p} }

// late is one whose D is its T, and which may be there j ticks late.
func late(c, t, j, p int) api.Task { return api.Task{C: c, T: t, D: t, J: j, P: p} }

// named gives tasks the names a, b, c and so on.
func named(l ...api.Task) []api.Task {
	set := slices.Clone(l)
	for i := range set {
		set[i].Name = string(rune('a' + i))
	}
	return set
}

// three are the tasks of the document.
func three() []api.Task { return named(task(1, 4, 3), task(2, 6, 2), task(3, 12, 1)) }

// several are n tasks of which each goes ahead of those behind it, and with which nobody is late.
func several(n int) []api.Task {
	var set []api.Task
	for i := range n {
		set = append(set, task(1, 10+i, 100-i))
	}
	return named(set...)
}

// changed is a copy of a set of which one task is changed.
func changed(set []api.Task, i int, change func(t *api.Task)) []api.Task {
	set = slices.Clone(set)
	change(&set[i])
	return set
}

// with is a copy of a set with other priorities.
func with(set []api.Task, ps ...int) []api.Task {
	set = slices.Clone(set)
	for i, p := range ps {
		set[i].P = p
	}
	return set
}

// none are n blocks of 0.
func none(n int) []int { return make([]int, n) }

func wantResponse(t *testing.T, what string, set []api.Task, i, block, want int, f api.Fault) {
	t.Helper()
	if got, g := fixed.Response(set, i, block); got != want || g != f {
		t.Errorf("Response, %s, of %d with %d: %d %v, want %d %v (%v)", what, i, block, got, g, want, f, set)
	}
}

func wantResponses(t *testing.T, what string, set []api.Task, blocks, want []int, f api.Fault) {
	t.Helper()
	got, g := fixed.Responses(set, blocks)
	if g != f || !slices.Equal(got, want) || f.Code != api.OK && got != nil {
		t.Errorf("Responses, %s, with %v: %v %v, want %v %v (%v)", what, blocks, got, g, want, f, set)
	}
}

func wantRates(t *testing.T, what string, set, want []api.Task, f api.Fault) {
	t.Helper()
	got, g := fixed.Rates(set)
	if g != f || !slices.Equal(got, want) || f.Code != api.OK && got != nil {
		t.Errorf("Rates, %s: %v %v, want %v %v", what, got, g, want, f)
	}
}

func wantDeadlines(t *testing.T, what string, set, want []api.Task, f api.Fault) {
	t.Helper()
	got, g := fixed.Deadlines(set)
	if g != f || !slices.Equal(got, want) || f.Code != api.OK && got != nil {
		t.Errorf("Deadlines, %s: %v %v, want %v %v", what, got, g, want, f)
	}
}

func wantAssign(t *testing.T, what string, set []api.Task, blocks []int, want []api.Task, f api.Fault) {
	t.Helper()
	got, g := fixed.Assign(set, blocks)
	if g != f || !slices.Equal(got, want) || f.Code != api.OK && got != nil {
		t.Errorf("Assign, %s, with %v: %v %v, want %v %v (%v)", what, blocks, got, g, want, f, set)
	}
}

func wantSum(t *testing.T, what string, set []api.Task, want bool, f api.Fault) {
	t.Helper()
	if got, g := fixed.Sum(set); got != want || g != f {
		t.Errorf("Sum, %s: %v %v, want %v %v (%v)", what, got, g, want, f, set)
	}
}

func wantProduct(t *testing.T, what string, set []api.Task, want bool, f api.Fault) {
	t.Helper()
	if got, g := fixed.Product(set); got != want || g != f {
		t.Errorf("Product, %s: %v %v, want %v %v (%v)", what, got, g, want, f, set)
	}
}

// wantRefused: do the calls that look for D and T tell this of a set, and nothing else, whatever else is wrong?
func wantRefused(t *testing.T, what string, set []api.Task, want api.Fault) {
	t.Helper()
	n := len(set)
	for _, i := range []int{0, n - 1, -1, n, 100} {
		for _, block := range []int{0, 1, -1, api.MaxTime, api.MaxTime + 1} {
			wantResponse(t, what, set, i, block, 0, want)
		}
	}
	for _, blocks := range [][]int{none(n), nil, none(n + 1), slices.Repeat([]int{-1}, n), slices.Repeat([]int{api.MaxTime}, n)} {
		wantResponses(t, what, set, blocks, nil, want)
		wantAssign(t, what, set, blocks, nil, want)
	}
}

// wantBad: does each call tell what chapter 7's Check says?
func wantBad(t *testing.T, what string, set []api.Task, want api.Fault) {
	t.Helper()
	wantRefused(t, what, set, want)
	wantRates(t, what, set, nil, want)
	wantDeadlines(t, what, set, nil, want)
	wantSum(t, what, set, false, want)
	wantProduct(t, what, set, false, want)
}

// otherResponse is P9.1 word by word, of what nothing is wrong with: each w is tried, from the least one on.
func otherResponse(set []api.Task, i, block int) (int, api.Fault) {
	for w := 1; w <= set[i].D; w++ {
		asked := set[i].C + block
		for k, o := range set {
			if k == i || o.P < set[i].P {
				continue
			}
			for at := -o.J; at < w && asked <= w; at += o.T { // all that may fall into w ticks, the first one as late as it may
				asked += o.C
			}
		}
		if asked != w {
			continue
		}
		if w+set[i].J > set[i].D {
			break
		}
		return w + set[i].J, api.Fault{}
	}
	return 0, fault(api.ErrNone, i)
}

// otherResponses is P9.1 of all of them.
func otherResponses(set []api.Task, blocks []int) ([]int, api.Fault) {
	var l []int
	for i, block := range blocks {
		r, f := otherResponse(set, i, block)
		if f.Code != api.OK {
			return nil, f
		}
		l = append(l, r)
	}
	return l, api.Fault{}
}

// fits: does nobody come late with these priorities, in the other way?
func fits(set []api.Task, blocks []int) bool {
	_, f := otherResponses(set, blocks)
	return f.Code == api.OK
}

// otherAssign is P9.3 word by word, of what nothing is wrong with: all have priorities while it is tried who may be the next one.
func otherAssign(set []api.Task, blocks []int) ([]api.Task, api.Fault) {
	const open, tried = 900, 500
	out := slices.Clone(set)
	for i := range out {
		out[i].P = open
	}
	for p := 1; p <= len(out); p++ {
		found := false
		for i := range out {
			if out[i].P != open {
				continue
			}
			out[i].P = tried
			if _, f := otherResponse(out, i, blocks[i]); f.Code == api.OK {
				out[i].P = p
				found = true
				break
			}
			out[i].P = open
		}
		if !found {
			return nil, fault(api.ErrNone, 0)
		}
	}
	return out, api.Fault{}
}

// otherRanked is P9.2 in another way: a task's priority is the number of those that don't go ahead of it.
func otherRanked(set []api.Task, by func(t api.Task) int) []api.Task {
	out := slices.Clone(set)
	for i, a := range set {
		out[i].P = 0
		for k, b := range set {
			if by(b) > by(a) || by(b) == by(a) && k >= i {
				out[i].P++
			}
		}
	}
	return out
}

// otherSum is P9.4 in whole numbers: (the sum of all C / T, and n) to the power of n, held against 2 n to the power of n.
func otherSum(set []api.Task) bool {
	n := int64(len(set))
	below := big.NewInt(1)
	for _, t := range set {
		below.Mul(below, big.NewInt(int64(t.T)))
	}
	above := new(big.Int).Mul(below, big.NewInt(n))
	bar := new(big.Int).Set(above)
	for _, t := range set {
		part := new(big.Int).Div(below, big.NewInt(int64(t.T)))
		above.Add(above, part.Mul(part, big.NewInt(int64(t.C))))
	}
	above.Exp(above, big.NewInt(n), nil)
	bar.Exp(bar, big.NewInt(n), nil)
	return above.Cmp(bar.Lsh(bar, 1)) <= 0
}

// otherProduct is P9.4 in whole numbers: all C + T, held against twice all T.
func otherProduct(set []api.Task) bool {
	above, below := big.NewInt(1), big.NewInt(2)
	for _, t := range set {
		above.Mul(above, big.NewInt(int64(t.C+t.T)))
		below.Mul(below, big.NewInt(int64(t.T)))
	}
	return above.Cmp(below) <= 0
}

// eachOrder calls with each order of the numbers 1 to n.
func eachOrder(n int, call func(ps []int)) {
	var lay func(ps []int)
	lay = func(ps []int) {
		if len(ps) == n {
			call(slices.Clone(ps))
			return
		}
		for p := 1; p <= n; p++ {
			if !slices.Contains(ps, p) {
				lay(append(slices.Clip(ps), p))
			}
		}
	}
	lay(nil)
}

// eachPriorities calls with each list of n numbers from 1 to n, also of which some are the same.
func eachPriorities(n int, call func(ps []int)) {
	var lay func(ps []int)
	lay = func(ps []int) {
		if len(ps) == n {
			call(slices.Clone(ps))
			return
		}
		for p := 1; p <= n; p++ {
			lay(append(slices.Clip(ps), p))
		}
	}
	lay(nil)
}

// maker makes sets, always the same ones from the same seed.
type maker struct{ *rand.Rand }

func newMaker(seed int64) maker { return maker{rand.New(rand.NewSource(seed))} }

// one is one of some numbers.
func (m maker) one(l ...int) int { return l[m.Intn(len(l))] }

// within is a number from least to most.
func (m maker) within(least, most int) int { return least + m.Intn(most-least+1) }

// set is one of n tasks with periods up to most, which together use about share hundredths of the time; no D is above its T, and some P are the same.
func (m maker) set(n, most, share int) []api.Task {
	var set []api.Task
	for range n {
		period := m.within(min(2, most), most)
		c := min(period, max(1, period*m.Intn(2*share+1)/(100*n)))
		set = append(set, api.Task{C: c, T: period, D: m.within(c, period), P: m.Intn(n)})
		if m.Intn(2) == 0 {
			set[len(set)-1].D = period
		}
	}
	return named(set...)
}

// jitter lets some tasks be late, a bit or much.
func (m maker) jitter(set []api.Task) []api.Task {
	set = slices.Clone(set)
	for i := range set {
		switch m.Intn(6) {
		case 0, 1:
			set[i].J = m.Intn(1 + set[i].D - set[i].C)
		case 2:
			set[i].J = min(api.MaxTime, m.Intn(2*set[i].T))
		}
	}
	return set
}

// blocks are n blocks up to most.
func (m maker) blocks(n, most int) []int {
	l := make([]int, n)
	for i := range l {
		if m.Intn(2) == 0 {
			l[i] = m.Intn(most + 1)
		}
	}
	return l
}

// order gives the tasks priorities of which no two are the same.
func (m maker) order(set []api.Task) []api.Task {
	set = slices.Clone(set)
	for i, p := range m.Perm(len(set)) {
		set[i].P = p
	}
	return set
}
