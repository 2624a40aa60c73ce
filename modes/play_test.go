package modes_test

import (
	"slices"
	"testing"

	"punctual/api"
	"punctual/modes"
)

// one and two are sets of which a high one may take a tick more than C, and more.
func one() []api.Crit { return crits(high(2, 4, 20, 20, 1)) }

func two() []api.Crit { return crits(high(2, 4, 20, 20, 1), low(2, 9, 9, 2)) }

func TestPlay(t *testing.T) {
	below := crits(low(3, 9, 9, 1), high(1, 3, 9, 9, 2))
	for _, c := range []struct {
		what      string
		set       []api.Crit
		comes     []api.Come
		takes     []int
		ran, ends []int
		turned    int
	}{
		{"no ticks", one(), comes(0, 0), ints(3), nil, none(1), -1},
		{"none come", two(), nil, nil, none(4), nil, -1},
		{"no ticks, none come", two(), nil, nil, nil, nil, -1},
		{"one that isn't high", crits(low(2, 9, 9, 1)), comes(0, 1), ints(2), runs(-1, 1, 0, 2, -1, 2), ints(3), -1},
		{"a high one takes less than C", one(), comes(0, 1), ints(1), runs(-1, 1, 0, 1, -1, 2), ints(2), -1},
		{"just C", one(), comes(0, 1), ints(2), runs(-1, 1, 0, 2, -1, 2), ints(3), -1},
		{"a tick more", one(), comes(0, 1), ints(3), runs(-1, 1, 0, 3, -1, 2), ints(4), 3},
		{"all of H", one(), comes(0, 1), ints(4), runs(-1, 1, 0, 4, -1, 2), ints(5), 3},
		{"H is C", crits(high(3, 3, 9, 9, 0)), comes(0, 0), ints(3), runs(0, 3, -1, 2), ints(3), -1},
		{"C is 1", crits(high(1, 2, 9, 9, 0)), comes(0, 0), ints(2), runs(0, 2, -1, 2), ints(2), 1},
		{"of the document's tests", crits(high(1, 2, 5, 5, 2), low(2, 6, 6, 3)), comes(0, 0, 1, 0, 1, 6), ints(2, 2, 2), runs(1, 2, 0, 2, -1, 4), ints(4, 2, -1), 3},

		{"a turn in the last tick", one(), comes(0, 1), ints(3), runs(-1, 1, 0, 2), none(1), 3},
		{"a tick ahead of the turn", one(), comes(0, 1), ints(3), runs(-1, 1, 0, 1), none(1), -1},
		{"a tick behind the turn", one(), comes(0, 1), ints(4), runs(-1, 1, 0, 3), none(1), 3},
		{"a turn in the first tick, which is the last one", crits(high(1, 2, 9, 9, 0)), comes(0, 0), ints(2), runs(0, 1), none(1), 1},

		{"running when it comes, there, coming behind", below, comes(0, 0, 1, 1, 0, 1, 0, 5), ints(3, 3, 3, 3), runs(0, 1, 1, 3, -1, 5), ints(-1, 4, -1, -1), 2},
		{"it takes just C: all go on", below, comes(0, 0, 1, 1, 0, 1, 0, 5), ints(3, 1, 3, 3), runs(0, 1, 1, 1, 0, 2, 2, 3, 3, 3, -1, 1), ints(4, 2, 7, 10), -1},
		{"a greater one comes between", two(), comes(0, 0, 1, 1, 1, 4), ints(4, 2, 2), runs(0, 1, 1, 2, 0, 3, -1, 2), ints(6, 3, -1), 4},
		{"one that comes just at the turn doesn't run", two(), comes(0, 0, 1, 2), ints(3, 2), runs(0, 3, -1, 3), ints(3, -1), 2},
		{"one that comes a tick ahead of it does", two(), comes(0, 0, 1, 1), ints(3, 2), runs(0, 1, 1, 2, 0, 2, -1, 2), ints(5, 3), 4},
		{"one that is done just as the other comes", two(), comes(1, 0, 0, 2), ints(2, 3), runs(0, 2, 1, 3, -1, 2), ints(2, 5), 4},
		{"given up in the midst", crits(high(1, 3, 20, 20, 1), high(1, 2, 20, 20, 9), low(4, 9, 9, 5)), comes(2, 0, 0, 0, 1, 2), ints(4, 3, 2), runs(0, 2, 2, 2, 1, 3, -1, 2), ints(-1, 7, 4), 3},
		{"the last tick of one that isn't high", crits(high(1, 2, 20, 20, 1), low(2, 9, 9, 5), high(1, 2, 20, 20, 9)), comes(1, 0, 2, 1), ints(2, 2), runs(0, 1, 1, 2, -1, 3), ints(-1, 3), 2},

		{"several of one task, each for itself", crits(high(2, 3, 9, 9, 1)), comes(0, 0, 0, 0, 0, 1), ints(1, 2, 2), runs(0, 1, 1, 2, 2, 2, -1, 2), ints(1, 3, 5), -1},
		{"several of one task: the second one turns it", crits(high(2, 3, 9, 9, 1)), comes(0, 0, 0, 0, 0, 1), ints(2, 3, 3), runs(0, 2, 1, 3, 2, 3, -1, 2), ints(2, 5, 8), 4},
		{"several of one that isn't high, given up", two(), comes(0, 0, 1, 2, 1, 2, 1, 3), ints(3, 2, 2, 2), runs(0, 3, -1, 4), ints(3, -1, -1, -1), 2},
		{"the sooner one goes ahead, not the first one", one(), comes(0, 2, 0, 0), ints(2, 4), runs(1, 4, 0, 2, -1, 2), ints(6, 4), 2},
		{"of one time the first one", one(), comes(0, 1, 0, 1), ints(1, 2), runs(-1, 1, 0, 1, 1, 2, -1, 2), ints(2, 4), -1},
		{"the mode turns once", crits(high(1, 2, 9, 9, 1), high(2, 4, 9, 9, 2)), comes(0, 0, 1, 0, 1, 6), ints(2, 4, 4), runs(1, 4, 0, 2, 2, 4, -1, 2), ints(6, 4, 10), 2},
		{"high ones that come behind the turn work as long as they will", two(), comes(0, 0, 0, 9, 1, 9), ints(4, 4, 1), runs(0, 4, -1, 5, 1, 4, -1, 2), ints(4, 13, -1), 2},
		{"a high one that begins behind the turn", crits(high(2, 4, 20, 20, 1), high(1, 1, 20, 20, 3), low(1, 9, 9, 7)), comes(0, 0, 1, 3, 2, 3), ints(4, 1, 1), runs(0, 3, 1, 1, 0, 1, -1, 2), ints(5, 4, -1), 2},
		{"two that aren't high, above and below", crits(low(1, 9, 9, 9), high(1, 2, 9, 9, 5), low(1, 9, 9, 1)), comes(0, 0, 1, 0, 2, 0), ints(1, 2, 1), runs(0, 1, 1, 2, -1, 2), ints(1, 3, -1), 2},
		{"at the last time", one(), comes(0, api.MaxUntil), ints(4), none(3), none(1), -1},
	} {
		wantPlay(t, c.what, c.set, c.comes, c.takes, c.ran, c.ends, c.turned)
	}
}

func TestPlayFaults(t *testing.T) {
	come, take := comes(0, 0, 1, 3, 0, 5), ints(4, 2, 1)
	bad := func(what string, come []api.Come, take []int, until int, want api.Fault) {
		t.Helper()
		wantNoPlay(t, what, two(), come, take, until, want)
	}
	good := func(what string, come []api.Come, take []int, until int) {
		t.Helper()
		if m, f := modes.Play(two(), come, take, until); f != (api.Fault{}) || len(m.Runs) != until || len(m.Ends) != len(come) {
			t.Errorf("Play, %s: %v", what, f)
		}
	}
	most, ofMost := slices.Repeat(come[:1], api.MaxJobs), slices.Repeat(take[:1], api.MaxJobs)
	good("as many as may be", most, ofMost, 100)
	bad("one more", append(most, come[0]), append(ofMost, 1), 100, fault(api.ErrMany, 0))
	bad("one more, and until", append(most, come[0]), append(ofMost, 1), -1, fault(api.ErrMany, 0))
	bad("one more, and a wrong one", append(comes(-1, -1), most...), append(ints(0), ofMost...), 5, fault(api.ErrMany, 0))
	good("none", nil, nil, 5)
	for _, l := range [][]int{nil, take[:2], append(take[:3:3], 1)} {
		bad("takes of another length", come, l, 5, fault(api.ErrMany, 0))
		bad("takes of another length, and until", come, l, api.MaxUntil+1, fault(api.ErrMany, 0))
		bad("takes of another length, and a wrong one", comes(2, 0, 0, 0, 0, 0), l, 5, fault(api.ErrMany, 0))
	}
	bad("takes of none that come", nil, ints(1), 5, fault(api.ErrMany, 0))
	for _, until := range []int{0, 1, api.MaxUntil} {
		good("until", come, take, until)
	}
	for _, until := range []int{-1, api.MaxUntil + 1, -1 << 63, 1<<63 - 1} {
		bad("until", come, take, until, fault(api.ErrRange, 0))
		bad("until, and a wrong one behind", comes(0, 0, 9, 0, 0, 0), take, until, fault(api.ErrRange, 0))
	}
	for i := range come {
		name := func(n int) []api.Come { return changed(come, i, func(c *api.Come) { c.Task = n }) }
		at := func(n int) []api.Come { return changed(come, i, func(c *api.Come) { c.At = n }) }
		takes := func(n int) []int { return changed(take, i, func(e *int) { *e = n }) }
		for _, n := range []int{-1, 2, api.MaxTasks, -1 << 63, 1<<63 - 1} {
			bad("no such task", name(n), take, 5, fault(api.ErrName, i))
			bad("no such task, at no time", changed(name(n), i, func(c *api.Come) { c.At = -1 }), take, 5, fault(api.ErrName, i))
			bad("no such task, for no time", name(n), takes(0), 5, fault(api.ErrName, i))
		}
		for _, n := range []int{0, 1, api.MaxUntil} {
			good("At", at(n), take, 5)
		}
		for _, n := range []int{-1, api.MaxUntil + 1, -1 << 63, 1<<63 - 1} {
			bad("At", at(n), take, 5, fault(api.ErrRange, i))
		}
		h := two()[come[i].Task].H
		for _, n := range []int{1, h - 1, h} {
			good("takes", come, takes(n), 5)
		}
		for _, n := range []int{0, -1, h + 1, -1 << 63, 1<<63 - 1} {
			bad("takes", come, takes(n), 5, fault(api.ErrRange, i))
		}
		for k := i + 1; k < len(come); k++ {
			bad("takes, then a name", changed(come, k, func(c *api.Come) { c.Task = 2 }), takes(0), 5, fault(api.ErrRange, i))
			bad("At, then a name", changed(at(-1), k, func(c *api.Come) { c.Task = 2 }), take, 5, fault(api.ErrRange, i))
			bad("a name, then takes", name(2), changed(take, k, func(e *int) { *e = 0 }), 5, fault(api.ErrName, i))
			bad("a name, then At", changed(name(2), k, func(c *api.Come) { c.At = -1 }), take, 5, fault(api.ErrName, i))
		}
	}
	// One that isn't high mayn't take what a high one may.
	wantNoPlay(t, "of one that isn't high", crits(low(2, 9, 9, 1)), comes(0, 0), ints(3), 5, fault(api.ErrRange, 0))
}

// wantAlike: is it played as the other way plays it?
func (s *seen) wantAlike(t *testing.T, what string, set []api.Crit, come []api.Come, take []int, until int) {
	t.Helper()
	ran, ends, turned := s.otherPlay(set, come, take, until)
	if turned == until {
		s.last++
	}
	wantPlay(t, what, set, come, take, ran, ends, turned)
}

func TestPlayAnotherWay(t *testing.T) {
	m := newMaker(134)
	var s seen
	for range 30000 {
		set := m.crits(m.within(1, 5), m.one(12, 20), m.one(60, 100))
		come := make([]api.Come, m.Intn(10))
		for i := range come {
			come[i] = api.Come{Task: m.Intn(len(set)), At: m.Intn(m.one(3, 12, 25))}
		}
		s.wantAlike(t, "made", set, come, m.takes(set, come), m.within(0, 50))
	}
	if s.turned < 2000 || s.last < 30 || s.just < 5000 || s.begun < 50 || s.waits < 400 || s.behind < 1000 || s.again < 500 {
		t.Errorf("seen: %+v", s)
	}
}

// TestPlayShort: all that up to three jobs of two tasks may do.
func TestPlayShort(t *testing.T) {
	var s seen
	for _, set := range [][]api.Crit{
		crits(high(1, 2, 9, 9, 1), low(2, 9, 9, 2)),
		crits(high(1, 3, 9, 9, 2), low(2, 9, 9, 1)),
		crits(high(2, 3, 9, 9, 1), high(1, 2, 9, 9, 2)),
		crits(low(1, 9, 9, 1), low(2, 9, 9, 2)),
	} {
		var lay func(come []api.Come, take []int)
		lay = func(come []api.Come, take []int) {
			for _, until := range ints(4, 9) {
				s.wantAlike(t, "short", set, come, take, until)
			}
			if len(come) == 3 {
				return
			}
			for i, a := range set {
				for at := range 4 {
					for n := 1; n <= a.H; n++ {
						lay(append(slices.Clip(come), api.Come{Task: i, At: at}), append(slices.Clip(take), n))
					}
				}
			}
		}
		lay(nil, nil)
	}
	if min(s.turned, s.last, s.just, s.begun, s.waits, s.behind, s.again) < 500 {
		t.Errorf("seen: %+v", s)
	}
}

// TestPlayLong: as many jobs as may be, over all ticks; the mode turns late.
func TestPlayLong(t *testing.T) {
	set := crits(low(1, 10, 10, 5), high(1, 4, 10, 10, 3))
	var come []api.Come
	for i := range api.MaxJobs / 2 {
		come = append(come, api.Come{Task: 0, At: 10 * i}, api.Come{Task: 1, At: 10 * i})
	}
	take := slices.Repeat(ints(1), len(come))
	m, f := modes.Play(set, come, take, api.MaxUntil)
	if f != (api.Fault{}) || m.Turned != -1 || slices.Contains(m.Ends, -1) || count(m.Runs, -1) != api.MaxUntil-len(come) {
		t.Errorf("all is well: %v, turned at %d", f, m.Turned)
	}
	take[3999] = 4 // comes at 19990, has run a tick at 19992
	m, f = modes.Play(set, come, take, api.MaxUntil)
	if f != (api.Fault{}) || m.Turned != 19992 || m.Ends[3999] != 19995 || count(m.Ends, -1) != 0 {
		t.Errorf("the last one: %v, turned at %d, done at %d", f, m.Turned, m.Ends[3999])
	}
	take[1] = 2 // has run a tick at 2
	m, f = modes.Play(set, come, take, api.MaxUntil)
	if f != (api.Fault{}) || m.Turned != 2 || m.Ends[1] != 3 || m.Ends[3] != 11 || count(m.Ends, -1) != api.MaxJobs/2-1 {
		t.Errorf("the first one: %v, turned at %d, %v", f, m.Turned, m.Ends[:4])
	}
}
