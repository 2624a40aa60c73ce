package modes_test

import (
	"math"
	"slices"
	"testing"

	"punctual/api"
	"punctual/modes"
)

func TestCheck(t *testing.T) {
	wantBad(t, "no task", nil, fault(api.ErrMany, 0))
	wantBad(t, "no task", crits(), fault(api.ErrMany, 0))
	wantBad(t, "too many", several(api.MaxTasks+1), fault(api.ErrMany, 0))
	wantBad(t, "too many, whatever they are", make([]api.Crit, api.MaxTasks+1), fault(api.ErrMany, 0))
	for n := 1; n <= api.MaxTasks; n++ {
		wantCheck(t, "several", several(n), api.Fault{})
	}
	for _, c := range []struct {
		what string
		task api.Crit
		want api.Errno
	}{
		{"C 0", api.Crit{H: 1, T: 5, D: 5}, api.ErrRange},
		{"C 0, high", api.Crit{H: 1, T: 5, D: 5, High: true}, api.ErrRange},
		{"nothing at all", api.Crit{T: 5, D: 5}, api.ErrRange},
		{"C below 0", high(-1, 1, 5, 5, 0), api.ErrRange},
		{"C 1", high(1, 1, 5, 5, 0), api.OK},
		{"C 1", low(1, 5, 5, 0), api.OK},
		{"H below C", high(3, 2, 5, 5, 0), api.ErrRange},
		{"H below C, though it isn't high", api.Crit{C: 3, H: 2, T: 5, D: 5}, api.ErrRange},
		{"H is C", high(3, 3, 5, 5, 0), api.OK},
		{"H above C", high(3, 4, 5, 5, 0), api.OK},
		{"T 0", high(1, 1, 0, 1, 0), api.ErrRange},
		{"T below 0", high(1, 1, -1, 1, 0), api.ErrRange},
		{"T 1", high(1, 1, 1, 1, 0), api.OK},
		{"the greatest T", high(1, 1, api.MaxTime, 1, 0), api.OK},
		{"all of it", high(api.MaxTime, api.MaxTime, api.MaxTime, api.MaxTime, 0), api.OK},
		{"all of it", low(api.MaxTime, api.MaxTime, api.MaxTime, 0), api.OK},
		{"T one more", high(1, 1, api.MaxTime+1, 1, 0), api.ErrRange},
		{"D below C", high(3, 3, 5, 2, 0), api.ErrRange},
		{"D below C, which is below H", high(3, 4, 5, 2, 0), api.ErrRange},
		{"D is C", high(3, 3, 5, 3, 0), api.OK},
		{"D 0", high(1, 1, 5, 0, 0), api.ErrRange},
		{"D is T", high(3, 3, 5, 5, 0), api.OK},
		{"D above T", high(3, 3, 5, 6, 0), api.ErrOrder},
		{"D far above T", low(3, 5, math.MaxInt, 0), api.ErrOrder},
		{"H is D", high(3, 4, 5, 4, 0), api.OK},
		{"H above D", high(3, 5, 5, 4, 0), api.ErrOrder},
		{"H far above D", high(3, math.MaxInt, 5, 4, 0), api.ErrOrder},
		{"P -1", high(1, 1, 5, 5, -1), api.ErrRange},
		{"P 1000", high(1, 1, 5, 5, 1000), api.OK},
		{"P 1001", high(1, 1, 5, 5, 1001), api.ErrRange},
		{"an H of one that isn't high", api.Crit{C: 2, H: 3, T: 5, D: 5}, api.ErrOrder},
		{"that H of a high one", api.Crit{C: 2, H: 3, T: 5, D: 5, High: true}, api.OK},
		{"a P, then D above T", high(1, 1, 5, 6, 1001), api.ErrRange},
		{"D above T, then T", high(1, 1, 0, 6, 0), api.ErrRange},
		{"H above D, then C", high(0, 7, 5, 6, 0), api.ErrRange},
	} {
		for _, n := range []int{1, 3, api.MaxTasks} {
			for i := range n {
				set := changed(several(n), i, func(t *api.Crit) { *t = c.task })
				if c.want == api.OK {
					wantCheck(t, c.what, set, api.Fault{})
				} else {
					wantBad(t, c.what, set, fault(c.want, i))
				}
			}
		}
	}
}

func TestCheckOrder(t *testing.T) {
	outside := func(t *api.Crit) { t.C = 0 }
	unordered := func(t *api.Crit) { t.D = t.T + 1 }
	for n := 2; n <= api.MaxTasks; n++ {
		for i := range n {
			for k := i + 1; k < n; k++ {
				twice := func(t *api.Crit) { t.P = 100 - i }
				set := changed(several(n), k, twice)
				wantBad(t, "twice", set, fault(api.ErrTwice, k))
				wantBad(t, "twice, and out of order", changed(set, k, unordered), fault(api.ErrOrder, k))
				wantBad(t, "twice, and out of range", changed(set, k, outside), fault(api.ErrRange, k))
				wantBad(t, "out of order and of range", changed(changed(several(n), k, unordered), k, outside), fault(api.ErrRange, k))
				wantBad(t, "twice, behind one out of order", changed(set, i, unordered), fault(api.ErrOrder, i))
				wantBad(t, "twice, behind one out of range", changed(set, i, outside), fault(api.ErrRange, i))
				wantBad(t, "out of range, behind one out of order", changed(changed(several(n), k, outside), i, unordered), fault(api.ErrOrder, i))
				wantBad(t, "out of order, behind one out of range", changed(changed(several(n), k, unordered), i, outside), fault(api.ErrRange, i))
				if k+1 < n {
					wantBad(t, "twice, ahead of one out of range", changed(set, k+1, outside), fault(api.ErrTwice, k))
				}
			}
		}
	}
	all := crits(low(1, 5, 5, 7), low(1, 5, 5, 7), low(1, 5, 5, 7))
	wantBad(t, "three times", all, fault(api.ErrTwice, 1))
	wantCheck(t, "one is the other but for P", crits(low(1, 5, 5, 7), low(1, 5, 5, 8)), api.Fault{})
}

// TestCheckAnotherWay: sets with numbers about the edges.
func TestCheckAnotherWay(t *testing.T) {
	m := newMaker(131)
	codes := map[api.Errno]int{}
	for range 60000 {
		set := make([]api.Crit, m.within(1, 4))
		for i := range set {
			c := m.within(1, 4)
			set[i] = api.Crit{C: c, H: c, T: 9, D: m.within(4, 9), High: m.Intn(2) == 0, P: m.Intn(12)}
			if set[i].High {
				set[i].H = m.within(c, 4)
			}
			switch m.Intn(24) {
			case 0:
				set[i].C = m.within(-1, 5)
			case 1:
				set[i].H = m.within(0, 10)
			case 2:
				set[i].T = m.one(-1, 0, 1, 8, 9, api.MaxTime, api.MaxTime+1)
			case 3:
				set[i].D = m.within(0, 11)
			case 4:
				set[i].P = m.one(-1, 0, 1000, 1001)
			case 5:
				set[i].High = !set[i].High
			}
		}
		want := otherCheck(set)
		codes[want.Code]++
		wantCheck(t, "made", set, want)
	}
	for _, code := range []api.Errno{api.OK, api.ErrRange, api.ErrOrder, api.ErrTwice} {
		if codes[code] < 2000 {
			t.Errorf("seen: %v", codes)
		}
	}
}

func TestResponses(t *testing.T) {
	for _, c := range []struct {
		what      string
		set       []api.Crit
		well, ill []int
	}{
		{"one that isn't high", crits(low(3, 5, 5, 0)), ints(3), ints(0)},
		{"one that is", crits(high(1, 2, 5, 5, 0)), ints(1), ints(2)},
		{"one that has all the time", crits(high(4, 5, 5, 5, 0)), ints(4), ints(5)},
		{"one of one tick", crits(high(1, 1, 1, 1, 0)), ints(1), ints(1)},
		{"one with the greatest numbers", crits(high(1, api.MaxTime, api.MaxTime, api.MaxTime, 0)), ints(1), ints(api.MaxTime)},
		{"a high one below one that isn't", crits(high(1, 2, 5, 5, 2), low(2, 6, 6, 3)), ints(3, 2), ints(4, 0)},
		{"a high one above one that isn't", crits(high(1, 2, 5, 5, 3), low(2, 6, 6, 2)), ints(1, 3), ints(2, 0)},
		{"one that isn't high is there for as long as all is well", crits(high(2, 5, 20, 20, 1), low(1, 4, 4, 2)), ints(3, 1), ints(6, 0)},
		{"so it may come twice", crits(high(4, 5, 20, 20, 1), low(1, 4, 4, 2)), ints(6, 1), ints(7, 0)},
		{"a high one comes till it is done", crits(high(1, 2, 4, 4, 2), high(2, 4, 20, 20, 1)), ints(1, 3), ints(2, 8)},
		{"a high one and one that isn't above a high one", crits(high(2, 3, 30, 30, 1), low(2, 7, 7, 2), high(1, 3, 10, 10, 3)), ints(5, 3, 1), ints(8, 0, 3)},
		{"one that isn't high below both", crits(low(3, 30, 30, 0), low(2, 7, 7, 2), high(1, 3, 10, 10, 3)), ints(6, 3, 1), ints(0, 0, 3)},
		{"nobody is held up by those below", crits(low(1, 9, 9, 9), low(8, 9, 9, 8)), ints(1, 9), ints(0, 0)},
		{"a w that just ends as the next one comes", crits(low(2, 4, 4, 2), low(2, 9, 9, 1)), ints(2, 4), ints(0, 0)},
		{"a v that just ends as the next one comes", crits(high(1, 2, 4, 4, 2), high(1, 2, 9, 9, 1)), ints(1, 2), ints(2, 4)},
		{"w is just D", crits(low(1, 4, 4, 2), low(2, 9, 3, 1)), ints(1, 3), ints(0, 0)},
		{"v is just D", crits(high(1, 2, 4, 4, 2), high(2, 4, 20, 8, 1)), ints(1, 3), ints(2, 8)},
		{"w and v are just D", crits(high(1, 1, 4, 4, 2), high(2, 2, 20, 3, 1)), ints(1, 3), ints(1, 3)},
	} {
		wantResponses(t, c.what, c.set, c.well, c.ill)
	}
}

func TestNoResponses(t *testing.T) {
	for _, c := range []struct {
		what string
		set  []api.Crit
		at   int
	}{
		{"w is D and 1", crits(low(1, 4, 4, 2), low(2, 9, 2, 1)), 1},
		{"w of a high one is D and 1", crits(low(1, 4, 4, 2), high(2, 2, 9, 2, 1)), 1},
		{"v is D and 1", crits(high(1, 2, 4, 4, 2), high(2, 4, 20, 7, 1)), 1},
		{"v is D and 1, with one that isn't high", crits(high(2, 5, 20, 5, 1), low(1, 4, 4, 2)), 0},
		{"there is no w", crits(low(4, 4, 4, 2), low(1, 10000, 10000, 1)), 1},
		{"there is no v", crits(high(1, 4, 4, 4, 2), high(1, 1, 10000, 10000, 1)), 1},
		{"neither", crits(high(1, 1, 10000, 10000, 1), high(4, 4, 4, 4, 2)), 0},
		{"of two the first one", crits(low(4, 4, 4, 5), low(1, 10, 10, 1), high(1, 1, 10, 10, 2)), 1},
		{"a w ahead of a v", crits(low(3, 9, 9, 8), low(2, 9, 4, 1), high(2, 7, 9, 9, 2)), 1},
		{"a v ahead of a w", crits(low(3, 9, 9, 8), high(2, 7, 9, 9, 2), low(2, 9, 4, 1)), 1},
	} {
		wantNoResponses(t, c.what, c.set, fault(api.ErrNone, c.at))
	}
}

func TestResponsesAnotherWay(t *testing.T) {
	m := newMaker(132)
	held, none, kept := 0, 0, 0
	for range 20000 {
		set := m.crits(m.within(1, api.MaxTasks), m.one(6, 20, 60), m.one(20, 40, 70))
		well, ill, f := otherResponses(set)
		if f.Code != api.OK {
			none++
			wantNoResponses(t, "made", set, f)
			continue
		}
		held++
		wantResponses(t, "made", set, well, ill)
		// Where it matters that those that aren't high come no more once w is over.
		for i, a := range set {
			if slices.ContainsFunc(set, func(o api.Crit) bool {
				return a.High && o.P > a.P && !o.High && often(well[i], o.T) < often(ill[i], o.T)
			}) {
				kept++
			}
		}
	}
	if min(held, none) < 4000 || kept < 500 {
		t.Errorf("%d have responses, %d have none; %d times they come no more", held, none, kept)
	}
}

// TestResponsesShort: all pairs of tasks with small numbers, either way round.
func TestResponsesShort(t *testing.T) {
	var all []api.Crit
	for period := 1; period <= 5; period++ {
		for d := 1; d <= period; d++ {
			for c := 1; c <= d; c++ {
				all = append(all, low(c, period, d, 0))
				for h := c; h <= d; h++ {
					all = append(all, high(c, h, period, d, 0))
				}
			}
		}
	}
	for _, a := range all {
		for _, b := range all {
			for _, third := range crits(high(2, 4, 25, 19, 0), low(3, 30, 24, 0)) {
				set := crits(a, b, third)
				set[0].P, set[1].P = 2, 1
				if well, ill, f := otherResponses(set); f.Code == api.OK {
					wantResponses(t, "short", set, well, ill)
				} else {
					wantNoResponses(t, "short", set, f)
				}
			}
		}
	}
}

func TestOnlyRead(t *testing.T) {
	m := newMaker(133)
	for range 300 {
		room := m.crits(5, 20, 40)
		come := make([]api.Come, 12)
		for i := range come {
			come[i] = api.Come{Task: m.Intn(3), At: m.Intn(15)}
		}
		take := m.takes(room, come)
		keptRoom, keptCome, keptTake := slices.Clone(room), slices.Clone(come), slices.Clone(take)
		modes.Check(room[:3])
		modes.Responses(room[:3])
		modes.Play(room[:3], come[:9], take[:9], 40)
		if !slices.Equal(room, keptRoom) || !slices.Equal(come, keptCome) || !slices.Equal(take, keptTake) {
			t.Fatalf("changed: %v %v %v", room, come, take)
		}
	}
}

func TestAnswersAreNew(t *testing.T) {
	set := crits(high(1, 2, 9, 9, 1), high(1, 3, 9, 9, 2))
	well, ill, _ := modes.Responses(set)
	again, _, _ := modes.Responses(set)
	well[0] = 77
	if ill[0] == 77 || again[0] == 77 {
		t.Errorf("shared: %v %v %v", well, ill, again)
	}
	if ill = append(ill[:0], 55, 55); well[1] == 55 {
		t.Errorf("shared: %v %v", well, ill)
	}
	come, take := comes(0, 0, 1, 1), ints(2, 3)
	a, _ := modes.Play(set, come, take, 2)
	b, _ := modes.Play(set, come, take, 2)
	a.Runs[0], a.Runs[1] = 77, 77
	if a.Ends[0] == 77 || b.Runs[0] == 77 || slices.Contains(take, 77) {
		t.Errorf("shared: %v %v", a, b)
	}
	a.Ends[0] = 88
	if a.Runs[0] == 88 || b.Ends[0] == 88 {
		t.Errorf("shared: %v %v", a, b)
	}
}
