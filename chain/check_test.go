package chain_test

import (
	"math"
	"testing"

	"punctual/api"
	"punctual/chain"
)

func TestCheckOK(t *testing.T) {
	ok := api.Fault{}
	wantCheck(t, "of the tests that are given", given(), ok)
	wantCheck(t, "one part", parts(root(0, 1, 1, 0)), ok)
	for n := 1; n <= api.MaxTasks; n++ {
		wantCheck(t, "so many parts", several(n), ok)
		wantCheck(t, "so many chains", alone(n), ok)
	}
	wantCheck(t, "two that hang on one", parts(root(0, 1, 9, 1), after(0, 0, 1, 9, 1), told(0, 1, 0, 1, 9, 1)), ok)
	wantCheck(t, "a message on the same core", parts(root(2, 1, 9, 1), told(0, 1, 2, 1, 9, 1)), ok)
	wantCheck(t, "no message to another core", parts(root(2, 1, 9, 1), after(0, 1, 1, 9, 1)), ok)
	wantCheck(t, "it must be done ahead of the one that it hangs on", parts(root(0, 5, 9, 1), due(2, after(0, 0, 1, 9, 1))), ok)
	wantCheck(t, "more than there is, of which Check says nothing", parts(root(0, 9, 9, 1), after(0, 0, 9, 9, 1)), ok)
}

func TestCheckMany(t *testing.T) {
	many := fault(api.ErrMany, 0)
	wantCheck(t, "none", nil, many)
	wantCheck(t, "none", []api.Part{}, many)
	wantCheck(t, "one too many", several(api.MaxTasks+1), many)
	wantCheck(t, "far too many", several(1000), many)
	wantCheck(t, "one too many, all of them wrong", make([]api.Part, api.MaxTasks+1), many)
}

// ends is a number of a part, with what may stand there and what may not.
type ends struct {
	what      string
	set       func(p *api.Part, n int)
	good, bad []int
}

func allEnds() []ends {
	far := func(l ...int) []int { return append(l, math.MinInt, math.MaxInt) }
	return []ends{
		{"Core", func(p *api.Part, n int) { p.Core = n }, ints(0, 1, api.MaxCores-1), far(-1, api.MaxCores)},
		{"Send", func(p *api.Part, n int) { p.From, p.Send = 0, n }, ints(0, 1, 1000), far(-1, 1001)},
		{"C", func(p *api.Part, n int) { p.C, p.T, p.D = n, api.MaxTime, api.MaxTime }, ints(1, 2, api.MaxTime), far(-1, 0, api.MaxTime+1)},
		{"T", func(p *api.Part, n int) { p.T, p.D = n, n }, ints(1, 2, api.MaxTime), far(-1, 0, api.MaxTime+1)},
		{"P", func(p *api.Part, n int) { p.P = n }, ints(0, 1, 1000), far(-1, 1001)},
	}
}

func TestCheckRange(t *testing.T) {
	for _, e := range allEnds() {
		for i := range api.MaxTasks {
			with := func(n int) []api.Part {
				return changed(alone(api.MaxTasks), i, func(p *api.Part) { e.set(p, n) })
			}
			for _, n := range e.good {
				if e.what == "Send" && i == 0 {
					continue // no part is ahead that could tell it anything
				}
				wantCheck(t, e.what, with(n), api.Fault{})
			}
			for _, n := range e.bad {
				wantCheck(t, e.what, with(n), fault(api.ErrRange, i))
				l := with(n)
				l[i].From, l[i].D = i, 0
				wantCheck(t, e.what+", ahead of From and D", l, fault(api.ErrRange, i))
			}
		}
	}
}

func TestCheckName(t *testing.T) {
	for i := range api.MaxTasks {
		from := func(n int) []api.Part {
			return changed(alone(api.MaxTasks), i, func(p *api.Part) { p.From = n })
		}
		for _, n := range ints(-2, i, i+1, api.MaxTasks, math.MinInt, math.MaxInt) {
			wantCheck(t, "no such part ahead", from(n), fault(api.ErrName, i))
			l := from(n)
			l[i].D, l[i].T = 0, 7
			wantCheck(t, "no such part ahead, ahead of D and T", l, fault(api.ErrName, i))
		}
		for n := -1; n < i; n++ {
			wantCheck(t, "each part ahead", from(n), api.Fault{})
		}
		for _, send := range ints(1, 2, 1000) {
			l := changed(from(-1), i, func(p *api.Part) { p.Send = send })
			wantCheck(t, "a message from nobody", l, fault(api.ErrName, i))
			l[i].D = 0
			wantCheck(t, "a message from nobody, ahead of D", l, fault(api.ErrName, i))
			if i > 0 {
				l[i].From, l[i].D = i-1, l[i].T
				wantCheck(t, "a message from the one just ahead", l, api.Fault{})
			}
		}
	}
}

func TestCheckOrder(t *testing.T) {
	for i := range api.MaxTasks {
		with := func(change func(p *api.Part)) []api.Part {
			return changed(alone(api.MaxTasks), i, func(p *api.Part) {
				p.C = 5
				change(p)
			})
		}
		for _, d := range ints(5, 6, 99, 100) {
			wantCheck(t, "D from C to T", with(func(p *api.Part) { p.D = d }), api.Fault{})
		}
		for _, d := range ints(4, 101, 0, -1, math.MinInt, math.MaxInt) {
			wantCheck(t, "D below C, or above T", with(func(p *api.Part) { p.D = d }), fault(api.ErrOrder, i))
		}
		wantCheck(t, "all the same", with(func(p *api.Part) { p.C, p.D = 100, 100 }), api.Fault{})
		wantCheck(t, "C above T", with(func(p *api.Part) { p.C, p.D = 101, 100 }), fault(api.ErrOrder, i))
		wantCheck(t, "C above T, D, too", with(func(p *api.Part) { p.C, p.D = 101, 101 }), fault(api.ErrOrder, i))
		wantCheck(t, "another period", with(func(p *api.Part) { p.T = 101 }), api.Fault{})
		if i == 0 {
			continue
		}
		for _, period := range ints(99, 101) {
			l := with(func(p *api.Part) { p.From, p.T, p.D = i-1, period, 50 })
			wantCheck(t, "a period other than that of the part From", l, fault(api.ErrOrder, i))
			if l[0].T, l[0].D = period, 50; i > 1 {
				wantCheck(t, "not that of the part From, but of another one", l, fault(api.ErrOrder, i))
			}
		}
	}
}

// TestCheckFirst: of several parts with which something is wrong the first one is told, whatever is wrong with the others.
func TestCheckFirst(t *testing.T) {
	wrongs := []struct {
		code   api.Errno
		change func(p *api.Part)
	}{
		{api.ErrRange, func(p *api.Part) { p.P = 1001 }},
		{api.ErrName, func(p *api.Part) { p.From = 99 }},
		{api.ErrOrder, func(p *api.Part) { p.D = 0 }},
	}
	for _, a := range wrongs {
		for _, b := range wrongs {
			for i := range api.MaxTasks {
				for k := i + 1; k < api.MaxTasks; k++ {
					wantCheck(t, "two wrong ones", changed(changed(alone(api.MaxTasks), k, b.change), i, a.change), fault(a.code, i))
				}
			}
		}
	}
	for first, a := range wrongs {
		for _, b := range wrongs[first:] {
			wantCheck(t, "one that is wrong in two ways", changed(changed(alone(5), 3, b.change), 3, a.change), fault(a.code, 3))
		}
	}
}

// TestCheckAll: of made parts, some of them wrong in several ways, Check says what the document says word by word.
func TestCheckAll(t *testing.T) {
	m := newMaker(181)
	var codes [api.ErrNone + 1]int
	for range 30000 {
		l := m.parts(m.within(1, api.MaxTasks), api.MaxCores, m.one(5, 50, api.MaxTime), 30)
		for range m.Intn(4) {
			p := &l[m.Intn(len(l))]
			n := m.one(-2, -1, 0, 1, 2, api.MaxCores, 1000, 1001, api.MaxTime, api.MaxTime+1, p.T-1, p.T+1, p.C-1, math.MinInt, math.MaxInt)
			*([]*int{&p.Core, &p.From, &p.Send, &p.C, &p.T, &p.D, &p.P}[m.Intn(7)]) = n
		}
		want := otherCheck(l)
		if got := chain.Check(l); got != want {
			t.Fatalf("Check: %v, want %v (%v)", got, want, l)
		}
		codes[want.Code]++
	}
	for _, code := range []api.Errno{api.OK, api.ErrRange, api.ErrName, api.ErrOrder} {
		if codes[code] < 1000 {
			t.Errorf("%d only %d times", code, codes[code])
		}
	}
}
