package fixed_test

import (
	"math"
	"slices"
	"testing"

	"punctual/api"
	"punctual/fixed"
)

func TestRatesAndDeadlines(t *testing.T) {
	set := named(due(1, 9, 5, 7), due(1, 4, 9, 7), due(1, 6, 7, 0))
	wantRates(t, "by T", set, with(set, 1, 3, 2), api.Fault{})
	wantDeadlines(t, "by D", set, with(set, 3, 1, 2), api.Fault{})
	one := named(due(1, 10000, 10000, 1000))
	wantRates(t, "one", one, with(one, 1), api.Fault{})
	wantDeadlines(t, "one", one, with(one, 1), api.Fault{})
	wantRates(t, "the document's", with(three(), 1, 2, 3), three(), api.Fault{})
	wantDeadlines(t, "the document's", with(three(), 0, 0, 0), three(), api.Fault{})
}

func TestRatesAndDeadlinesOfTheSame(t *testing.T) {
	set := named(due(1, 5, 4, 9), due(2, 5, 4, 1), due(1, 3, 4, 1), due(3, 5, 4, 5), due(1, 3, 2, 4))
	wantRates(t, "several of one T", set, with(set, 3, 2, 5, 1, 4), api.Fault{})
	wantDeadlines(t, "several of one D", set, with(set, 4, 3, 2, 1, 5), api.Fault{})
	var all []api.Task
	for i := range api.MaxTasks {
		all = append(all, due(1+i, 20, 9, i))
	}
	all = named(all...)
	wantRates(t, "all the same", all, with(all, 8, 7, 6, 5, 4, 3, 2, 1), api.Fault{})
	wantDeadlines(t, "all the same", all, with(all, 8, 7, 6, 5, 4, 3, 2, 1), api.Fault{})
}

// TestRatesKeepAllElse: D above T, J and O, great and small, stand as they stood.
func TestRatesKeepAllElse(t *testing.T) {
	set := []api.Task{{Name: "zz", C: 3, T: 2, D: 9, J: 10000, O: 10000, P: 1000}, {Name: "abcdefghij", C: 1, T: 1, D: 10000, J: 1, O: 2}}
	wantRates(t, "with J and O", set, with(set, 1, 2), api.Fault{})
	wantDeadlines(t, "with J and O", set, with(set, 2, 1), api.Fault{})
}

func TestRatesAndDeadlinesAnotherWay(t *testing.T) {
	m := newMaker(93)
	for range 5000 {
		n := m.within(1, api.MaxTasks)
		set := m.jitter(m.set(n, m.one(3, 10, 10000), 80))
		for i := range set {
			if m.Intn(3) == 0 {
				set[i].D = m.within(set[i].C, api.MaxTime) // also above T
			}
			set[i].O = m.Intn(3)
		}
		wantRates(t, "made", set, otherRanked(set, func(t api.Task) int { return t.T }), api.Fault{})
		wantDeadlines(t, "made", set, otherRanked(set, func(t api.Task) int { return t.D }), api.Fault{})
	}
}

func TestAssign(t *testing.T) {
	wantAssign(t, "of the document's tests", with(three(), 1, 2, 3), none(3), with(three(), 2, 3, 1), api.Fault{})
	wantAssign(t, "held up", three(), []int{0, 0, 9}, nil, fault(api.ErrNone, 0))
	for _, c := range []struct {
		what   string
		set    []api.Task
		blocks []int
		want   []int // nil: none
	}{
		{"one", named(task(1, 1, 1000)), none(1), []int{1}},
		{"one, held up as long as may be", named(task(1, 10000, 0)), []int{9999}, []int{1}},
		{"one, held up for too long", named(task(1, 10000, 0)), []int{10000}, nil},
		{"any order does", named(task(1, 9, 7), task(1, 9, 7), task(1, 9, 7)), none(3), []int{1, 2, 3}},
		{"only one order does", named(due(2, 10, 4, 0), due(3, 10, 9, 0), due(2, 10, 2, 0)), none(3), []int{2, 1, 3}},
		{"only the other one", named(due(2, 10, 2, 0), due(3, 10, 9, 0)), none(2), []int{2, 1}},
		{"the first ones are tried first", named(due(2, 10, 9, 0), due(2, 10, 9, 0), due(2, 10, 2, 0)), none(3), []int{1, 2, 3}},
		{"neither by D nor by T", named(due(1, 10, 6, 0), late(1, 10, 9, 0)), none(2), []int{1, 2}},
		{"the one with the least D last", named(due(1, 10, 5, 0), due(1, 10, 6, 0)), []int{0, 5}, []int{1, 2}},
		{"none: nobody may be the last one", named(task(1, 2, 2), task(2, 3, 1)), none(2), nil},
		{"none: two that must be the first one", named(due(2, 10, 2, 0), due(2, 10, 2, 0)), none(2), nil},
		{"none: late by itself", named(late(1, 10, 10, 2), task(1, 10, 1)), none(2), nil},
		{"all the time", named(task(5, 10, 3), task(5, 10, 2)), none(2), []int{1, 2}},
		{"more than all the time", named(task(5, 10, 3), task(6, 10, 2)), none(2), nil},
		{"a block too many", named(task(5, 10, 3), task(5, 10, 2)), []int{1, 0}, []int{2, 1}},
		{"two blocks too many", named(task(5, 10, 3), task(5, 10, 2)), []int{1, 1}, nil},
	} {
		if c.want == nil {
			wantAssign(t, c.what, c.set, c.blocks, nil, fault(api.ErrNone, 0))
		} else {
			wantAssign(t, c.what, c.set, c.blocks, with(c.set, c.want...), api.Fault{})
		}
	}
}

func TestAssignHowMany(t *testing.T) {
	for n := 1; n <= api.MaxTasks; n++ {
		set := several(n)
		want, _ := otherAssign(set, none(n))
		wantAssign(t, "as many", set, none(n), want, api.Fault{})
		wantAssign(t, "one fewer", set, none(n-1), nil, fault(api.ErrMany, 0))
		wantAssign(t, "one more", set, none(n+1), nil, fault(api.ErrMany, 0))
		wantAssign(t, "no blocks", set, nil, nil, fault(api.ErrMany, 0))
		for i := range n {
			for _, block := range []int{-1, api.MaxTime + 1, math.MinInt, math.MaxInt} {
				blocks := none(n)
				blocks[i] = block
				wantAssign(t, "no such block", set, blocks, nil, fault(api.ErrMany, 0))
				wantAssign(t, "no such block, and nobody may be last", with(set), append(slices.Repeat([]int{api.MaxTime}, n-1), block), nil, fault(api.ErrMany, 0))
			}
			blocks := none(n)
			blocks[i] = api.MaxTime
			wantAssign(t, "the greatest block", set, blocks, nil, fault(api.ErrNone, 0))
		}
	}
}

// TestAssignAsksNotForP: what priorities a set has already says nothing.
func TestAssignAsksNotForP(t *testing.T) {
	want, _ := otherAssign(three(), []int{0, 1, 2})
	eachPriorities(3, func(ps []int) {
		for i := range ps {
			ps[i] *= 300
		}
		wantAssign(t, "other priorities", with(three(), ps...), []int{0, 1, 2}, want, api.Fault{})
	})
}

func TestAssignAnotherWay(t *testing.T) {
	m := newMaker(94)
	some, no := 0, 0
	for range 4000 {
		n := m.within(1, api.MaxTasks)
		set := m.jitter(m.set(n, m.one(5, 20, 60), m.one(30, 60, 90)))
		blocks := m.blocks(n, m.one(0, 2, 10))
		want, f := otherAssign(set, blocks)
		wantAssign(t, "made", set, blocks, want, f)
		if f.Code == api.OK {
			some++
		} else {
			no++
		}
	}
	if min(some, no) < 500 {
		t.Errorf("%d have priorities, %d none", some, no)
	}
}

func TestPrioritiesOnlyRead(t *testing.T) {
	room := append(with(three(), 7, 8, 9), named(task(7, 7, 7))...)
	blocks := []int{0, 1, 1, 77}
	keptRoom, keptBlocks := slices.Clone(room), slices.Clone(blocks)
	for what, call := range map[string]func() []api.Task{
		"Rates":     func() []api.Task { l, _ := fixed.Rates(room[:3]); return l },
		"Deadlines": func() []api.Task { l, _ := fixed.Deadlines(room[:3]); return l },
		"Assign":    func() []api.Task { l, _ := fixed.Assign(room[:3], blocks[:3]); return l },
	} {
		first := call()
		kept := slices.Clone(first)
		if len(first) != 3 {
			t.Fatalf("%s: %v", what, first)
		}
		all := first[:cap(first)]
		for i := range all {
			all[i] = api.Task{Name: "other"}
		}
		if second := call(); !slices.Equal(second, kept) {
			t.Errorf("%s shares: %v, want %v", what, second, kept)
		}
		if !slices.Equal(room, keptRoom) || !slices.Equal(blocks, keptBlocks) {
			t.Errorf("%s changed: %v %v", what, room, blocks)
		}
	}
	// A refusal on the way leaves all as it was, too.
	fixed.Assign(room[:3], []int{0, 9, 0})
	fixed.Assign(room[:3], []int{0, 0, 9})
	if !slices.Equal(room, keptRoom) {
		t.Errorf("changed: %v", room)
	}
}
