package chain_test

import (
	"slices"
	"testing"

	"punctual/api"
	"punctual/chain"
)

// legal lets each chain come as soon as it may, or now and then later, ahead of until; sometimes they are told in no order.
func (m maker) legal(l []api.Part, until int) []api.Come {
	lazy := m.one(0, 0, 3, 20)
	var come []api.Come
	for _, k := range roots(l) {
		for at := m.one(0, m.Intn(l[k].T), m.Intn(1+lazy)); at < until; at += l[k].T + m.Intn(1+lazy) {
			come = append(come, api.Come{Task: k, At: at})
		}
	}
	if m.Intn(2) == 0 {
		m.Shuffle(len(come), func(a, b int) { come[a], come[b] = come[b], come[a] })
	} else {
		slices.SortStableFunc(come, func(a, b api.Come) int { return a.At - b.At })
	}
	return come
}

// rootOf is the part that begins the chain of part k.
func rootOf(l []api.Part, k int) int {
	for l[k].From >= 0 {
		k = l[k].From
	}
	return k
}

// kept counts jobs of which P18.5 says something.
type kept struct {
	jobs    int
	just    int // done just when they had to be
	hang    int // of those: of parts that hang on another one
	told    int // of those: by a message
	waited  int // of those: that had to wait
	several int // of those: of parts on whose core there are others
	same    int // of those: of the same P
}

// want: is each part done so soon behind the coming of its chain? (Of those that must be ahead of until.)
func (k *kept) want(t *testing.T, l []api.Part, soon []int, come []api.Come, takes []int, until int) [][]int {
	t.Helper()
	got, f := chain.Play(l, come, takes, until)
	if f != (api.Fault{}) || len(got) != len(come) {
		t.Fatalf("Play: %d %v (%v, %v, %v)", len(got), f, l, come, takes)
	}
	for n, c := range come {
		for i := range l {
			switch end := got[n][i]; {
			case rootOf(l, i) != c.Task:
				if end != -1 {
					t.Fatalf("part %d is none of the chain %d, and is done at %d (%v)", i, c.Task, end, l)
				}
			case c.At+soon[i] > until:
			case end < 0 || end > c.At+soon[i]:
				t.Fatalf("part %d is done at %d, must be %d behind %d (%v, %v, %v)", i, end, soon[i], c.At, l, come, takes)
			default:
				k.count(l, i, end == c.At+soon[i], soon)
			}
		}
	}
	return got
}

// count counts a job of part i.
func (k *kept) count(l []api.Part, i int, just bool, soon []int) {
	k.jobs++
	if !just {
		return
	}
	k.just++
	p, least := l[i], l[i].C
	if p.From >= 0 {
		k.hang++
		k.told += min(1, p.Send)
		least += soon[p.From] + p.Send
	}
	if soon[i] > least {
		k.waited++
	}
	others, same := 0, 0
	for o, other := range l {
		if o != i && other.Core == p.Core {
			others = 1
			if other.P == p.P {
				same = 1
			}
		}
	}
	k.several, k.same = k.several+others, k.same+same
}

// TestDoneInTime is P18.5.
func TestDoneInTime(t *testing.T) {
	m := newMaker(187)
	var k kept
	sets := 0
	for range 12000 {
		l := m.parts(m.within(1, api.MaxTasks), m.within(1, api.MaxCores), m.one(10, 25, 60), m.one(15, 30, 50))
		soon, f := chain.Responses(l)
		if f.Code != api.OK {
			continue
		}
		sets++
		for range 4 {
			k.want(t, l, soon, m.legal(l, 150), m.takes(), 250)
		}
	}
	if sets < 5000 || k.jobs < 500000 || k.just < 100000 || k.hang < 5000 || k.told < 1000 || k.waited < 10000 || k.several < 30000 || k.same < 500 {
		t.Errorf("%d sets, %+v", sets, k)
	}
}

// eachFirst calls with each way in which all chains may come first in the ticks of their periods, and then every so many ticks more than they must.
func eachFirst(l []api.Part, more, until int, call func(come []api.Come)) {
	begin := roots(l)
	var choose func(i int, come []api.Come)
	choose = func(i int, come []api.Come) {
		if i == len(begin) {
			call(come)
			return
		}
		period := l[begin[i]].T
		for first := range period {
			next := slices.Clone(come)
			for at := first; at < until; at += period + more {
				next = append(next, api.Come{Task: begin[i], At: at})
			}
			choose(i+1, next)
		}
	}
	choose(0, nil)
}

// TestEveryFirstComing is P18.5 of small parts, whenever their chains come first.
func TestEveryFirstComing(t *testing.T) {
	m := newMaker(188)
	var k kept
	sets, reached := 0, 0
	for range 4000 {
		l := m.parts(m.within(2, 5), m.within(1, 3), m.one(6, 9), m.one(25, 40))
		soon, f := chain.Responses(l)
		if n := len(roots(l)); f.Code != api.OK || n < 2 || n > 3 {
			continue
		}
		sets++
		longest := make([]int, len(l))
		for _, takes := range lists(nil, ints(1, 0, 2, 0, 0), m.takes()) {
			eachFirst(l, m.Intn(2), 30, func(come []api.Come) {
				for n, ends := range k.want(t, l, soon, come, takes, 60) {
					for i, end := range ends {
						longest[i] = max(longest[i], end-come[n].At)
					}
				}
			})
		}
		if slices.Equal(longest, soon) {
			reached++
		}
	}
	if sets < 500 || reached < 200 || k.just < 100000 || k.hang < 5000 || k.told < 500 || k.waited < 10000 || k.same < 2000 {
		t.Errorf("%d sets, of %d all numbers are reached, %+v", sets, reached, k)
	}
}

// TestDoneInTimeForLong: great numbers, over all ticks that are played.
func TestDoneInTimeForLong(t *testing.T) {
	m := newMaker(189)
	var k kept
	sets := 0
	for range 400 {
		l := m.parts(m.within(2, api.MaxTasks), m.within(1, api.MaxCores), m.one(200, 2000, api.MaxTime), m.one(15, 30, 60))
		soon, f := chain.Responses(l)
		come := m.legal(l, api.MaxUntil)
		if f.Code != api.OK || len(come) > api.MaxJobs {
			continue
		}
		sets++
		k.want(t, l, soon, come, m.takes(), api.MaxUntil)
	}
	if sets < 100 || k.jobs < 20000 || k.just < 1000 {
		t.Errorf("%d sets, %+v", sets, k)
	}
}

// TestDoneInTimeWherePlaced: on the cores that Place tells they are done in time, too.
func TestDoneInTimeWherePlaced(t *testing.T) {
	m := newMaker(190)
	var k kept
	sets := 0
	for range 2000 {
		l := m.parts(m.within(1, 5), 1, m.one(10, 25), m.one(50, 90))
		way, f := chain.Place(l, m.within(1, api.MaxCores))
		if f.Code != api.OK {
			continue
		}
		sets++
		l = onCores(l, way...)
		soon, f := chain.Responses(l)
		if f != (api.Fault{}) {
			t.Fatalf("Responses: %v (%v)", f, l)
		}
		k.want(t, l, soon, m.legal(l, 100), m.takes(), 150)
	}
	if sets < 500 || k.jobs < 10000 {
		t.Errorf("%d sets, %+v", sets, k)
	}
}

// TestPremises: where chains come oftener, or Responses says none, a part may be done later.
func TestPremises(t *testing.T) {
	l := parts(root(0, 2, 10, 1), told(0, 3, 1, 1, 10, 1))
	wantResponses(t, "in time", l, 2, 6)
	wantPlay(t, "every ten ticks", l, comes(0, 0, 0, 10), nil, 30, ints(2, 6), ints(12, 16))
	wantPlay(t, "oftener", l, comes(0, 0, 0, 1), nil, 30, ints(2, 6), ints(4, 9))
	late := parts(root(0, 6, 10, 2), root(0, 5, 10, 1))
	wantNoResponses(t, "too much", late, fault(api.ErrNone, 0))
	wantPlay(t, "too much", late, comes(0, 0, 1, 0, 0, 10), nil, 30, ints(6, -1), ints(-1, 17), ints(16, -1))
}
