package chain_test

import (
	"slices"
	"testing"

	"punctual/api"
	"punctual/chain"
)

func TestResponsesGiven(t *testing.T) {
	wantResponses(t, "of the tests that are given", given(), 2, 10, 1, 4)
	wantNoResponses(t, "too late", changed(given(), 1, func(p *api.Part) { p.D = 9 }), fault(api.ErrNone, 0))
}

func TestResponsesOfOnePart(t *testing.T) {
	for core := range api.MaxCores {
		for _, p := range ints(0, 1, 1000) {
			wantResponses(t, "one part", parts(root(core, 3, 10, p)), 3)
			wantResponses(t, "the least numbers", parts(root(core, 1, 1, p)), 1)
			wantResponses(t, "the greatest numbers", parts(root(core, api.MaxTime, api.MaxTime, p)), api.MaxTime)
			wantResponses(t, "just D", parts(due(3, root(core, 3, 10, p))), 3)
		}
	}
}

func TestResponsesOfChains(t *testing.T) {
	for _, c := range []struct {
		what string
		l    []api.Part
		want []int
	}{
		{"on one core, the first one goes ahead", parts(root(0, 2, 100, 2), after(0, 0, 3, 100, 1)), ints(2, 7)},
		{"on one core, the second one goes ahead", parts(root(0, 2, 100, 1), after(0, 0, 3, 100, 2)), ints(5, 8)},
		{"on one core, of the same P", parts(root(0, 2, 100, 1), after(0, 0, 3, 100, 1)), ints(5, 10)},
		{"on two cores", parts(root(0, 2, 100, 1), after(0, 1, 3, 100, 1)), ints(2, 5)},
		{"on two cores, the last ones", parts(root(3, 2, 100, 1), after(0, 2, 3, 100, 1)), ints(2, 5)},
		{"a message to the same core", parts(root(0, 2, 100, 2), told(0, 4, 0, 3, 100, 1)), ints(2, 11)},
		{"a message to another core", parts(root(0, 2, 100, 2), told(0, 4, 1, 3, 100, 1)), ints(2, 9)},
		{"the longest message", parts(root(0, 2, 2000, 2), told(0, 1000, 1, 3, 2000, 1)), ints(2, 1005)},
		{"three", parts(root(0, 2, 100, 1), after(0, 1, 3, 100, 1), told(1, 4, 2, 5, 100, 1)), ints(2, 5, 14)},
		{"two that hang on one", parts(root(0, 2, 100, 1), after(0, 1, 3, 100, 1), after(0, 2, 4, 100, 1)), ints(2, 5, 6)},
		{"two that hang on one, on one core", parts(root(0, 2, 100, 1), after(0, 1, 3, 100, 2), after(0, 1, 4, 100, 1)), ints(2, 5, 9)},
		{"two that hang on one, on one core, of the same P", parts(root(0, 2, 100, 1), after(0, 1, 3, 100, 1), after(0, 1, 4, 100, 1)), ints(2, 9, 9)},
		{"two that hang on one, one of them by a message", parts(root(0, 2, 100, 1), told(0, 6, 1, 3, 100, 1), after(0, 2, 4, 100, 1)), ints(2, 11, 6)},
		{"chains that begin further behind", parts(root(0, 5, 100, 1), root(1, 2, 50, 1), after(1, 2, 3, 50, 1), told(0, 4, 3, 1, 100, 1)), ints(5, 2, 5, 10)},
		{"not the part just ahead", parts(root(0, 5, 100, 1), root(1, 2, 100, 1), after(0, 2, 3, 100, 1), after(1, 3, 3, 100, 1)), ints(5, 2, 8, 5)},
		{"chains alone", parts(root(0, 2, 9, 5), root(0, 3, 9, 5)), ints(5, 5)},
		{"chains alone, by P", parts(root(0, 2, 9, 0), root(0, 3, 9, 1000)), ints(5, 3)},
		{"one comes twice while another waits", parts(root(0, 2, 5, 2), root(0, 5, 20, 1)), ints(2, 9)},
		// The part 1 may be 6 ticks late, so that it can come twice in 7 ticks.
		{"one that may be late comes twice", parts(root(0, 6, 10, 1), after(0, 1, 2, 10, 2), root(1, 3, 40, 1)), ints(6, 8, 7)},
		{"one that may be late for a message comes twice", parts(root(0, 2, 12, 1), told(0, 4, 1, 2, 12, 2), root(1, 3, 40, 1)), ints(2, 8, 5)},
		{"one that may be late for a longer message comes twice", parts(root(0, 2, 12, 1), told(0, 6, 1, 2, 12, 2), root(1, 3, 40, 1)), ints(2, 10, 7)},
	} {
		wantResponses(t, c.what, c.l, c.want...)
	}
}

func TestResponsesOfMessages(t *testing.T) {
	begin := parts(root(0, 1, 100, 1), root(3, 10, 100, 1))
	behind := func(l ...api.Part) []api.Part { return slices.Concat(begin, l) }
	// The message of the lower part goes ahead, whoever sends it: the other one can only hold it up.
	wantResponses(t, "the long one ahead", behind(told(0, 5, 1, 1, 100, 1), told(1, 2, 2, 1, 100, 1)), 1, 10, 8, 18)
	wantResponses(t, "the short one ahead", behind(told(1, 2, 2, 1, 100, 1), told(0, 5, 1, 1, 100, 1)), 1, 10, 17, 9)
	wantResponses(t, "P doesn't matter on the bus", behind(told(0, 5, 1, 1, 100, 0), told(1, 2, 2, 1, 100, 1000)), 1, 10, 8, 18)
	wantResponses(t, "one between them", behind(told(0, 5, 1, 1, 100, 1), after(0, 2, 7, 100, 1), told(1, 2, 1, 1, 100, 2)), 1, 10, 9, 8, 18)
	// Three messages: 3, 2 and 4 ticks long, of parts that take 1, 10 and 1.
	wantResponses(t, "three", behind(told(0, 3, 1, 1, 100, 3), told(1, 2, 1, 1, 100, 2), told(0, 4, 2, 1, 100, 1)), 1, 10, 8, 20, 11)
	// Messages that tell of a part that hangs on one.
	wantResponses(t, "one behind the other", parts(root(0, 1, 100, 1), told(0, 2, 1, 1, 100, 1), told(1, 3, 2, 1, 100, 1)), 1, 6, 12)
	wantResponses(t, "to its own core", parts(root(0, 1, 100, 1), told(0, 2, 0, 1, 100, 2), told(1, 3, 0, 1, 100, 3)), 3, 9, 15)
	// While the last message waits 11 ticks for the two others, the first one, which may be 13 ticks late, comes twice; if it may be 12 late, it doesn't.
	late := func(c int) []api.Part {
		return parts(root(0, c, 24, 1), root(1, 1, 50, 1), told(0, 4, 2, 1, 24, 1), told(1, 7, 3, 1, 50, 1), told(1, 2, 3, 1, 50, 2))
	}
	wantResponses(t, "one that is late comes twice", late(13), 13, 1, 24, 15, 19)
	wantResponses(t, "one that is less late comes once", late(12), 12, 1, 23, 15, 15)
}

// TestResponsesJustAtD: the last part takes 9 ticks at worst, the one between 7, the first one 4.
func TestResponsesJustAtD(t *testing.T) {
	l := parts(root(0, 2, 40, 1), told(0, 2, 1, 1, 40, 1), after(1, 2, 2, 40, 1), root(0, 2, 40, 2))
	wantResponses(t, "much time", l, 4, 7, 9, 2)
	for i, just := range ints(4, 7, 9, 2) {
		for d := l[i].C; d <= 40; d++ {
			one := changed(l, i, func(p *api.Part) { p.D = d })
			if d >= just {
				wantResponses(t, "D is enough", one, 4, 7, 9, 2)
			} else {
				wantNoResponses(t, "D is too little", one, fault(api.ErrNone, 0))
			}
		}
	}
	for i, d := range ints(4, 7, 9, 2) {
		l[i].D = d
	}
	wantResponses(t, "all just at D", l, 4, 7, 9, 2)
	wantResponses(t, "the greatest D", parts(root(0, 5000, 10000, 1), after(0, 1, 5000, 10000, 1)), 5000, 10000)
	wantNoResponses(t, "above the greatest D", parts(root(0, 5000, 10000, 1), after(0, 1, 5001, 10000, 1)), fault(api.ErrNone, 0))
	wantResponses(t, "the greatest D, by a message", parts(root(0, 5000, 10000, 1), told(0, 1000, 1, 4000, 10000, 1)), 5000, 10000)
	wantNoResponses(t, "above the greatest D, by a message", parts(root(0, 5001, 10000, 1), told(0, 1000, 1, 4000, 10000, 1)), fault(api.ErrNone, 0))
}

// TestResponsesNone: At is 0, whichever part is late.
func TestResponsesNone(t *testing.T) {
	no := fault(api.ErrNone, 0)
	wantNoResponses(t, "a core asks too much", parts(root(0, 6, 10, 2), root(0, 5, 10, 1)), no)
	wantNoResponses(t, "the last core asks too much", parts(root(0, 1, 10, 1), root(3, 6, 10, 2), root(3, 5, 10, 1)), no)
	wantNoResponses(t, "a core asks for all, and a part is late", parts(root(0, 5, 10, 2), after(0, 0, 5, 10, 1)), no)
	wantNoResponses(t, "a chain that is longer than its period", parts(root(0, 5, 10, 1), after(0, 1, 6, 10, 1)), no)
	wantNoResponses(t, "two of one P", parts(root(0, 5, 12, 1), after(0, 0, 5, 12, 1)), no)
	wantNoResponses(t, "the bus asks too much", parts(root(0, 1, 10, 1), told(0, 6, 1, 1, 10, 1), told(0, 6, 2, 1, 10, 1)), no)
	wantNoResponses(t, "the bus asks for all", parts(root(0, 1, 10, 1), told(0, 5, 1, 1, 10, 1), told(0, 5, 2, 1, 10, 1)), no)
	wantResponses(t, "the bus asks for less", parts(root(0, 1, 10, 1), told(0, 3, 1, 1, 10, 1), told(0, 3, 2, 1, 10, 1)), 1, 7, 8)
	wantNoResponses(t, "one message alone takes longer than its period", parts(root(0, 1, 10, 1), told(0, 11, 1, 1, 10, 1)), no)
	wantNoResponses(t, "one message alone takes as long as its period", parts(root(0, 1, 10, 1), told(0, 10, 1, 1, 10, 1)), no)
	wantNoResponses(t, "the part of another chain, by the bus alone", parts(root(0, 1, 9, 1), told(0, 2, 1, 1, 9, 1), root(2, 1, 90, 1), told(2, 9, 3, 1, 90, 1)), no)
	wantResponses(t, "by a shorter message it isn't", parts(root(0, 1, 9, 1), told(0, 2, 1, 1, 9, 1), root(2, 1, 90, 1), told(2, 6, 3, 1, 90, 1)), 1, 9, 1, 10)
	wantNoResponses(t, "all that can be asked for", slices.Repeat(parts(root(0, api.MaxTime, api.MaxTime, 1)), api.MaxTasks), no)
}

// TestResponsesInRounds: what is found of one part makes others take longer, and so on.
func TestResponsesInRounds(t *testing.T) {
	// At first the part 0 takes 5 ticks: then 1 and 2 are late, and 2 comes twice while 0 waits, and so on.
	wantResponses(t, "three parts", parts(root(0, 2, 12, 0), after(0, 0, 2, 12, 1), told(1, 1, 0, 1, 12, 2)), 6, 10, 12)
	wantResponses(t, "four parts", parts(root(1, 3, 12, 0), after(0, 0, 1, 12, 1), after(1, 1, 1, 12, 2), after(2, 1, 1, 12, 2)), 7, 8, 10, 12)
	wantNoResponses(t, "four parts, one tick too few", parts(root(1, 3, 12, 0), after(0, 0, 1, 12, 1), after(1, 1, 1, 12, 2), due(11, after(2, 1, 1, 12, 2))), fault(api.ErrNone, 0))
}

// TestResponsesAreLeast: there are several such numbers: 2 and 4, and 3 and 5.
func TestResponsesAreLeast(t *testing.T) {
	l := parts(root(0, 1, 5, 1), told(0, 1, 0, 1, 5, 2))
	if all := allNumbers(l); !sameLists(all, lists(ints(2, 4), ints(3, 5))) {
		t.Errorf("%v", all)
	}
	wantResponses(t, "the least", l, 2, 4)
	l = parts(root(1, 1, 12, 0), told(0, 2, 1, 3, 12, 1))
	if all := allNumbers(l); !sameLists(all, lists(ints(4, 9), ints(7, 12))) {
		t.Errorf("%v", all)
	}
	wantResponses(t, "the least", l, 4, 9)
}

// TestResponsesOfAllNumbers is P18.2 of small parts: all numbers are tried.
func TestResponsesOfAllNumbers(t *testing.T) {
	m := newMaker(182)
	none, one, more, messages := 0, 0, 0, 0
	for range 8000 {
		l := m.parts(m.within(1, 3), m.within(1, 2), m.one(5, 8, 11), m.one(20, 30, 45))
		all := allNumbers(l)
		switch {
		case len(all) == 0:
			none++
			wantNoResponses(t, "no numbers", l, fault(api.ErrNone, 0))
			continue
		case len(all) == 1:
			one++
		default:
			more++
		}
		if slices.ContainsFunc(l, func(p api.Part) bool { return p.Send != 0 }) {
			messages++
		}
		first := least(all)
		if first == nil {
			t.Fatalf("no least numbers: %v (%v)", all, l)
		}
		wantResponses(t, "the least numbers", l, first...)
	}
	if none < 500 || one < 1000 || more < 20 || messages < 300 {
		t.Errorf("none %d times, one %d, several %d; %d with messages", none, one, more, messages)
	}
}

// TestResponsesInAnyOrder is P18.2 of parts of any size: the numbers are found one by one, in whichever order.
func TestResponsesInAnyOrder(t *testing.T) {
	m := newMaker(183)
	ok, none := 0, 0
	for range 6000 {
		l := m.parts(m.within(1, api.MaxTasks), m.within(1, api.MaxCores), m.one(10, 30, 300, api.MaxTime), m.one(10, 25, 40, 60))
		want := byOne(l, func() int { return m.Intn(len(l)) })
		if want == nil {
			none++
			wantNoResponses(t, "no numbers", l, fault(api.ErrNone, 0))
			continue
		}
		ok++
		wantResponses(t, "numbers", l, want...)
	}
	if ok < 1500 || none < 1500 {
		t.Errorf("%d have numbers, %d none", ok, none)
	}
}

// TestResponsesAreNew: what is answered is new each time, and what is handed in stays as it is.
func TestResponsesAreNew(t *testing.T) {
	room := given()
	room = append(room, root(1, 7, 9, 3), root(2, 8, 9, 3))
	kept := slices.Clone(room)
	for range 3 {
		got, f := chain.Responses(room[:4])
		if f != (api.Fault{}) || !slices.Equal(got, ints(2, 10, 1, 4)) || !slices.Equal(room, kept) {
			t.Fatalf("%v %v (%v)", got, f, room)
		}
		for i := range got[:cap(got)] {
			got[:cap(got)][i] = -7
		}
	}
}
