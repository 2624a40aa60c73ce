package chain_test

import (
	"math"
	"slices"
	"testing"

	"punctual/api"
	"punctual/chain"
)

func TestPlayGiven(t *testing.T) {
	wantPlay(t, "played", given(), comes(0, 0, 2, 4), nil, 30, ints(2, 9, -1, -1), ints(-1, -1, 5, 6))
	wantPlay(t, "shorter", given(), comes(0, 0), ints(0, 1, 5), 30, ints(1, 6, -1, -1))
	wantNoPlay(t, "no beginning", given(), comes(1, 0), nil, 30, fault(api.ErrName, 0))
}

func TestPlayOnePart(t *testing.T) {
	for core := range api.MaxCores {
		l := parts(root(core, 3, 10, core))
		wantPlay(t, "no comes", l, nil, nil, 20)
		wantPlay(t, "no comes", l, []api.Come{}, []int{}, 20)
		wantPlay(t, "at 0", l, comes(0, 0), nil, 20, ints(3))
		wantPlay(t, "at 5", l, comes(0, 5), nil, 20, ints(8))
		wantPlay(t, "two comings", l, comes(0, 0, 0, 10), nil, 20, ints(3), ints(13))
		wantPlay(t, "two comings, oftener than they may", l, comes(0, 0, 0, 1), nil, 20, ints(3), ints(6))
		wantPlay(t, "not in order", l, comes(0, 10, 0, 0), nil, 20, ints(13), ints(3))
		wantPlay(t, "not in order, closely", l, comes(0, 3, 0, 1), nil, 20, ints(7), ints(4))
		wantPlay(t, "three at one time", l, comes(0, 2, 0, 2, 0, 2), nil, 20, ints(5), ints(8), ints(11))
	}
	wantPlay(t, "the longest", parts(root(0, api.MaxTime, api.MaxTime, 0)), comes(0, 0, 0, api.MaxTime), nil, api.MaxUntil, ints(api.MaxTime), ints(api.MaxUntil))
}

func TestPlayUntil(t *testing.T) {
	l := parts(root(0, 2, 50, 1), told(0, 2, 1, 3, 50, 1), after(1, 0, 1, 50, 1))
	for until := range 12 {
		want := none(3)
		for k, end := range ints(2, 7, 8) {
			if end <= until {
				want[k] = end
			}
		}
		wantPlay(t, "what is done ahead of until", l, comes(0, 0), nil, until, want)
	}
	for until := range 5 {
		wantPlay(t, "behind until", l, comes(0, 4, 0, api.MaxUntil), nil, until, none(3), none(3))
	}
	wantPlay(t, "at until", l, comes(0, api.MaxUntil), nil, api.MaxUntil, none(3))
	wantPlay(t, "just ahead of it", l, comes(0, api.MaxUntil-2), nil, api.MaxUntil, ints(api.MaxUntil, -1, -1))
	wantPlay(t, "in the very last tick", l, comes(0, api.MaxUntil-8), nil, api.MaxUntil, ints(api.MaxUntil-6, api.MaxUntil-1, api.MaxUntil))
}

// TestPlayNext: what hangs on one that is done runs in the very next tick, and not in the same one, whichever core comes first.
func TestPlayNext(t *testing.T) {
	for a := range api.MaxCores {
		for b := range api.MaxCores {
			for p := range 3 {
				l := parts(root(a, 1, 20, 1), after(0, b, 1, 20, p), after(1, a, 1, 20, p))
				wantPlay(t, "in the next tick", l, comes(0, 0), nil, 20, ints(1, 2, 3))
				l = parts(root(a, 1, 20, 1), told(0, 1, b, 1, 20, p), told(1, 2, a, 1, 20, p))
				wantPlay(t, "in the next tick, by messages", l, comes(0, 0), nil, 20, ints(1, 3, 6))
			}
		}
	}
	both := parts(root(0, 2, 20, 1), after(0, 1, 2, 20, 1), after(0, 2, 3, 20, 1), told(0, 2, 3, 1, 20, 1), told(2, 1, 3, 1, 20, 1))
	wantPlay(t, "all that hang on one", both, comes(0, 1), nil, 20, ints(3, 5, 6, 6, 8))
}

func TestPlayPriorities(t *testing.T) {
	l := parts(root(0, 4, 50, 1), root(0, 2, 50, 2), root(0, 1, 50, 1000), root(1, 4, 50, 0))
	wantPlay(t, "the greatest P first", l, comes(0, 0, 1, 0, 2, 0, 3, 0), nil, 20, ints(7, -1, -1, -1), ints(-1, 3, -1, -1), ints(-1, -1, 1, -1), ints(-1, -1, -1, 4))
	wantPlay(t, "it goes ahead of one that runs", l, comes(0, 0, 1, 1, 2, 2), nil, 20, ints(7, -1, -1, -1), ints(-1, 4, -1, -1), ints(-1, -1, 3, -1))
	wantPlay(t, "again and again", l, comes(0, 0, 2, 1, 2, 3), nil, 20, ints(6, -1, -1, -1), ints(-1, -1, 2, -1), ints(-1, -1, 4, -1))
	// The second part of the chain goes ahead of its first one for the next coming, or behind it.
	wantPlay(t, "ahead of the next coming", parts(root(0, 2, 50, 1), after(0, 0, 3, 50, 2)), comes(0, 0, 0, 1), nil, 20, ints(2, 5), ints(7, 10))
	wantPlay(t, "behind the next coming", parts(root(0, 2, 50, 2), after(0, 0, 3, 50, 1)), comes(0, 0, 0, 1), nil, 20, ints(2, 7), ints(4, 10))
}

// TestPlaySameP: who is there since earlier, then the lower part, then the lower coming.
func TestPlaySameP(t *testing.T) {
	two := parts(root(0, 2, 20, 5), root(0, 2, 20, 5))
	wantPlay(t, "the higher part since earlier", two, comes(1, 0, 0, 1), nil, 20, ints(-1, 2), ints(4, -1))
	wantPlay(t, "the lower part since earlier", two, comes(1, 1, 0, 0), nil, 20, ints(-1, 4), ints(2, -1))
	wantPlay(t, "the lower part, though its coming is higher", two, comes(1, 0, 0, 0), nil, 20, ints(-1, 4), ints(2, -1))
	wantPlay(t, "the lower coming of one part", two, comes(1, 0, 1, 0), nil, 20, ints(-1, 2), ints(-1, 4))
	wantPlay(t, "the higher coming since earlier", two, comes(1, 1, 1, 0), nil, 20, ints(-1, 4), ints(-1, 2))
	wantPlay(t, "the lower part ahead of the lower coming", two, comes(1, 0, 0, 0, 1, 0, 0, 0), nil, 20, ints(-1, 6), ints(2, -1), ints(-1, 8), ints(4, -1))
	wantPlay(t, "one that was there, and waits", two, comes(0, 0, 1, 1, 0, 1, 0, 2, 1, 2), nil, 20, ints(2, -1), ints(-1, 6), ints(4, -1), ints(8, -1), ints(-1, 10))
	// A part is there since the one ahead was done, not since its chain came.
	mixed := parts(root(0, 1, 50, 9), after(0, 1, 2, 50, 5), root(1, 2, 50, 5))
	wantPlay(t, "there later than its chain", mixed, comes(0, 0, 2, 0), nil, 20, ints(1, 4, -1), ints(-1, -1, 2))
	wantPlay(t, "there at the same time", mixed, comes(2, 1, 0, 0), nil, 20, ints(-1, -1, 5), ints(1, 3, -1))
	wantPlay(t, "there earlier", mixed, comes(2, 2, 0, 0), nil, 20, ints(-1, -1, 5), ints(1, 3, -1))
	// And if a message tells it, since that was over.
	mixed = parts(root(0, 1, 50, 9), told(0, 2, 1, 2, 50, 5), root(1, 2, 50, 5))
	wantPlay(t, "there when its message is over", mixed, comes(0, 0, 2, 2), nil, 20, ints(1, 6, -1), ints(-1, -1, 4))
	wantPlay(t, "there at the same time", mixed, comes(0, 0, 2, 3), nil, 20, ints(1, 5, -1), ints(-1, -1, 7))
	// One that has begun keeps its place.
	three := parts(root(0, 3, 50, 5), root(0, 3, 50, 5), root(0, 1, 50, 6))
	wantPlay(t, "one of the same P goes on", three, comes(1, 0, 2, 1, 0, 1), nil, 20, ints(-1, 4, -1), ints(-1, -1, 2), ints(7, -1, -1))
}

func TestPlayMessages(t *testing.T) {
	both := parts(root(0, 1, 50, 1), told(0, 3, 1, 1, 50, 1), told(0, 2, 2, 1, 50, 1))
	wantPlay(t, "the lower part's goes first", both, comes(0, 0), nil, 20, ints(1, 5, 7))
	wantPlay(t, "P doesn't matter on the bus", changed(both, 2, func(p *api.Part) { p.P = 1000 }), comes(0, 0), nil, 20, ints(1, 5, 7))
	wantPlay(t, "while others wait", both, comes(0, 0, 0, 1), nil, 20, ints(1, 5, 10), ints(2, 8, 12))
	two := parts(root(0, 1, 50, 1), told(0, 2, 1, 1, 50, 1), root(2, 1, 50, 1), told(2, 5, 3, 1, 50, 1))
	wantPlay(t, "it isn't stopped by one of a lower part", two, comes(2, 0, 0, 1), nil, 20, ints(-1, -1, 1, 7), ints(2, 9, -1, -1))
	wantPlay(t, "one of a lower part that comes just then begins", two, comes(2, 0, 0, 0), nil, 20, ints(-1, -1, 1, 9), ints(1, 4, -1, -1))
	wantPlay(t, "not even at its end", two, comes(2, 0, 0, 4), nil, 20, ints(-1, -1, 1, 7), ints(5, 9, -1, -1))
	wantPlay(t, "when it is over, the lower part's goes ahead of one that is there since earlier", two, comes(2, 0, 2, 1, 0, 3), nil, 30,
		ints(-1, -1, 1, 7), ints(-1, -1, 2, 14), ints(4, 9, -1, -1))
	wantPlay(t, "of one part who is there since earlier", two, comes(2, 1, 2, 0), nil, 30, ints(-1, -1, 2, 12), ints(-1, -1, 1, 7))
	wantPlay(t, "of one part, in order", two, comes(2, 0, 2, 0, 2, 0), nil, 30, ints(-1, -1, 1, 7), ints(-1, -1, 2, 12), ints(-1, -1, 3, 17))
	// The bus is free again at once.
	near := parts(root(0, 1, 50, 1), told(0, 3, 1, 2, 50, 1))
	wantPlay(t, "one behind the other", near, comes(0, 0, 0, 1, 0, 2), nil, 30, ints(1, 6), ints(2, 9), ints(3, 12))
	wantPlay(t, "the longest message", parts(root(0, 1, 2000, 1), told(0, 1000, 1, 2, 2000, 1)), comes(0, 3), nil, 2000, ints(4, 1006))
	wantPlay(t, "to its own core", parts(root(0, 2, 50, 1), told(0, 3, 0, 2, 50, 1)), comes(0, 0, 0, 4), nil, 30, ints(2, 8), ints(6, 11))
	wantPlay(t, "a core works while the bus does", parts(root(0, 2, 50, 1), told(0, 3, 0, 2, 50, 2), root(0, 4, 50, 0)), comes(0, 0, 2, 0), nil, 30, ints(2, 7, -1), ints(-1, -1, 8))
}

func TestPlayTakes(t *testing.T) {
	one := parts(root(0, 4, 50, 1))
	for takes, want := range ints(1, 2, 3, 4, 1, 2, 3, 4, 1) {
		wantPlay(t, "1 and the rest", one, comes(0, 0), ints(takes), 20, ints(want))
	}
	wantPlay(t, "as much as may be", one, comes(0, 0), ints(math.MaxInt), 20, ints(1+math.MaxInt%4))
	wantPlay(t, "of one tick", parts(root(0, 1, 50, 1)), comes(0, 0, 0, 5), ints(math.MaxInt, 7), 20, ints(1), ints(6))
	wantPlay(t, "entries that aren't asked", one, comes(0, 0), ints(1, math.MaxInt, 3), 20, ints(2))
	// Entry by entry: two parts, three comings.
	two := parts(root(0, 9, 50, 1), after(0, 1, 9, 50, 1))
	come := comes(0, 0, 0, 20, 0, 40)
	wantPlay(t, "as many as jobs", two, come, ints(1, 2, 3, 4, 5, 6), 90, ints(2, 5), ints(24, 29), ints(46, 53))
	wantPlay(t, "more than jobs", two, come, ints(1, 2, 3, 4, 5, 6, 7), 90, ints(2, 5), ints(24, 29), ints(46, 53))
	wantPlay(t, "five, counted round", two, come, ints(1, 2, 3, 4, 5), 90, ints(2, 5), ints(24, 29), ints(46, 48))
	wantPlay(t, "four, counted round", two, come, ints(1, 2, 3, 4), 90, ints(2, 5), ints(24, 29), ints(42, 45))
	wantPlay(t, "three, counted round", two, come, ints(1, 2, 3), 90, ints(2, 5), ints(24, 26), ints(43, 47))
	wantPlay(t, "one for all", two, come, ints(11), 90, ints(3, 6), ints(23, 26), ints(43, 46))
	// It is the number in the list that counts, not the time; and parts of other chains are counted, too.
	wantPlay(t, "the later one first", two, comes(0, 20, 0, 0), ints(1, 2, 3, 4), 90, ints(22, 25), ints(4, 9))
	chains := parts(root(0, 9, 50, 1), root(1, 9, 50, 1), after(1, 2, 9, 50, 1))
	wantPlay(t, "of another chain", chains, comes(1, 0, 0, 0), ints(1, 2, 3, 4, 5, 6), 90, ints(-1, 3, 7), ints(5, -1, -1))
	// A message takes as long as ever.
	wantPlay(t, "a message", parts(root(0, 9, 50, 1), told(0, 5, 1, 9, 50, 1)), comes(0, 0), ints(0), 90, ints(1, 7))
}

func TestPlayOtherChains(t *testing.T) {
	l := parts(root(0, 1, 50, 1), root(1, 2, 50, 1), after(0, 2, 3, 50, 1), told(1, 4, 3, 5, 50, 1), after(2, 2, 1, 50, 1))
	wantPlay(t, "the first chain", l, comes(0, 0), nil, 30, ints(1, -1, 4, -1, 5))
	wantPlay(t, "the second chain", l, comes(1, 0), nil, 30, ints(-1, 2, -1, 11, -1))
	wantPlay(t, "both", l, comes(1, 0, 0, 0), nil, 30, ints(-1, 2, -1, 11, -1), ints(1, -1, 4, -1, 5))
}

func TestPlayFaults(t *testing.T) {
	l := parts(root(0, 1, 50, 1), after(0, 1, 1, 50, 1), root(2, 1, 50, 1))
	// Of comes, one by one.
	for _, at := range ints(0, 1, 5) {
		with := func(task, when int) []api.Come {
			return changed(make([]api.Come, 6), at, func(c *api.Come) { c.Task, c.At = task, when })
		}
		for _, task := range ints(-1, 1, 3, math.MinInt, math.MaxInt) {
			wantNoPlay(t, "no beginning", l, with(task, 0), nil, 9, fault(api.ErrName, at))
			wantNoPlay(t, "no beginning, ahead of At", l, with(task, -1), nil, 9, fault(api.ErrName, at))
		}
		for _, when := range ints(-1, api.MaxUntil+1, math.MinInt, math.MaxInt) {
			wantNoPlay(t, "no such time", l, with(2, when), nil, 9, fault(api.ErrRange, at))
			bad := with(0, when)
			bad = append(bad, api.Come{Task: 1})
			wantNoPlay(t, "no such time, ahead of one that is no beginning", l, bad, nil, 9, fault(api.ErrRange, at))
		}
		for _, when := range ints(0, 1, api.MaxUntil) {
			if _, f := chain.Play(l, with(2, when), nil, 9); f != (api.Fault{}) {
				t.Errorf("at %d: %v", when, f)
			}
		}
		wantNoPlay(t, "no beginning, ahead of a time", l, append(with(1, 0), api.Come{At: -1}), nil, 9, fault(api.ErrName, at))
	}
	// Of until and takes, ahead of these.
	bad := comes(1, -1)
	for _, until := range ints(-1, api.MaxUntil+1, math.MinInt, math.MaxInt) {
		wantNoPlay(t, "no such until", l, nil, nil, until, fault(api.ErrRange, 0))
		wantNoPlay(t, "no such until", l, bad, ints(-1), until, fault(api.ErrRange, 0))
	}
	for _, takes := range lists(ints(-1), ints(0, 5, -1), ints(-1, 0), ints(math.MinInt), append(make([]int, 9999), -1)) {
		wantNoPlay(t, "below 0", l, nil, takes, 0, fault(api.ErrRange, 0))
		wantNoPlay(t, "below 0", l, bad, takes, api.MaxUntil, fault(api.ErrRange, 0))
		wantNoPlay(t, "below 0", l, comes(0, 0, 1, 0), takes, 9, fault(api.ErrRange, 0))
	}
	// Of how many come, ahead of that.
	many := make([]api.Come, api.MaxJobs+1)
	many[3] = api.Come{Task: 1, At: -1}
	for _, until := range ints(0, 9, -1, api.MaxUntil+1) {
		wantNoPlay(t, "too many", l, many, nil, until, fault(api.ErrMany, 0))
		wantNoPlay(t, "too many", l, many, ints(-1), until, fault(api.ErrMany, 0))
	}
	wantNoPlay(t, "just as many as may be", l, many[:api.MaxJobs], nil, 9, fault(api.ErrName, 3))
}

// TestPlayMany: as many as may be, in all ticks that are played.
func TestPlayMany(t *testing.T) {
	l := parts(root(0, 1, 50, 1), after(0, 0, 1, 50, 0), told(1, 1, 0, 1, 50, 2), after(2, 1, 2, 50, 1), told(3, 2, 2, 1, 50, 1), after(4, 3, 3, 50, 1), after(4, 3, 1, 50, 2), after(6, 1, 1, 50, 1))
	for _, at := range ints(0, 7) {
		come := slices.Repeat(comes(0, at), api.MaxJobs)
		got, f := chain.Play(l, come, ints(1, 0, 2), api.MaxUntil)
		if f != (api.Fault{}) || len(got) != api.MaxJobs {
			t.Fatalf("%d %v", len(got), f)
		}
		for n, ends := range got {
			if ends[0] != at+n+1 {
				t.Fatalf("%d is done at %d", n, ends[0])
			}
		}
	}
	// Each takes six ticks of one core, and the last ones aren't done.
	busy := parts(root(3, 6, 50, 1))
	got, f := chain.Play(busy, make([]api.Come, api.MaxJobs), nil, api.MaxUntil)
	if f != (api.Fault{}) || len(got) != api.MaxJobs {
		t.Fatalf("%d %v", len(got), f)
	}
	for n, ends := range got {
		want := 6 * (n + 1)
		if want > api.MaxUntil {
			want = -1
		}
		if !slices.Equal(ends, ints(want)) {
			t.Fatalf("%d is done at %v", n, ends)
		}
	}
}

// comings are some of the chains, in no order, all ahead of until, or nearly.
func (m maker) comings(l []api.Part, most, until int) []api.Come {
	var come []api.Come
	begin, span := roots(l), m.one(1, 4, 10, until+1)
	for range m.Intn(most + 1) {
		come = append(come, api.Come{Task: m.one(begin...), At: m.Intn(span)})
	}
	return come
}

// TestPlayAll is P18.4 of made parts and comings.
func TestPlayAll(t *testing.T) {
	m := newMaker(185)
	var all seen
	done, not := 0, 0
	for range 15000 {
		l := m.parts(m.within(1, 7), m.within(1, api.MaxCores), m.one(6, 12, 25), m.one(50, 100, 200))
		come, takes, until := m.comings(l, 8, 30), m.takes(), m.one(0, 20, 60, 150)
		want, s := otherPlay(l, come, takes, until)
		wantPlay(t, "made", l, come, takes, until, want...)
		all.waits, all.same, all.later, all.stops = all.waits+s.waits, all.same+s.same, all.later+s.later, all.stops+s.stops
		all.holds, all.queue, all.chance = all.holds+s.holds, all.queue+s.queue, all.chance+s.chance
		for _, ends := range want {
			for _, end := range ends {
				if end >= 0 {
					done++
				} else {
					not++
				}
			}
		}
	}
	if min(all.waits, all.same) < 50000 || min(all.later, all.stops, all.queue, all.chance) < 1000 || all.holds < 300 || min(done, not) < 50000 {
		t.Errorf("%+v; %d are done, %d aren't", all, done, not)
	}
}

// TestPlayAllFaults: of what is wrong in several ways Play says what the document says word by word.
func TestPlayAllFaults(t *testing.T) {
	m := newMaker(186)
	var codes [api.ErrNone + 1]int
	for range 10000 {
		l := m.parts(m.within(1, 5), 2, 20, 40)
		come, takes, until := m.comings(l, 6, 30), m.takes(), m.one(0, 5, 20, -1, api.MaxUntil+1, 30, 30, 30)
		for i := range come {
			switch m.Intn(20) {
			case 0:
				come[i].Task = m.one(-1, 1, 2, len(l), math.MinInt, math.MaxInt)
			case 1:
				come[i].At = m.one(-1, api.MaxUntil, api.MaxUntil+1, math.MinInt, math.MaxInt)
			}
		}
		for i := range takes {
			if m.Intn(40) == 0 {
				takes[i] = m.one(-1, math.MinInt)
			}
		}
		want := otherCheckPlay(l, come, takes, until)
		codes[want.Code]++
		if want.Code != api.OK {
			wantNoPlay(t, "wrong", l, come, takes, until, want)
		} else if got, f := chain.Play(l, come, takes, until); f != want || len(got) != len(come) {
			t.Errorf("Play: %v %v", got, f)
		}
	}
	for _, code := range []api.Errno{api.OK, api.ErrRange, api.ErrName} {
		if codes[code] < 300 {
			t.Errorf("%d only %d times", code, codes[code])
		}
	}
}

// room is a list with others behind it, and a copy of all of them.
func room[E any](l []E, others ...E) (short, all, kept []E) {
	all = slices.Concat(l, others)
	return all[:len(l)], all, slices.Clone(all)
}

// TestPlayIsNew: what is handed in stays as it is, the room behind it, too; no list of what is answered shares memory with another one, or with what was answered before.
func TestPlayIsNew(t *testing.T) {
	l, allParts, keptParts := room(given(), root(0, 9, 9, 9), root(1, 9, 9, 9))
	come, allComes, keptComes := room(comes(2, 7, 0, 0, 2, 4, 0, 25), api.Come{Task: 9, At: -9}, api.Come{Task: 8, At: -8})
	takes, allTakes, keptTakes := room(ints(1, 3, 5, 2, 7), -1, -2, -3)
	want, _ := otherPlay(l, come, takes, 40)
	for range 3 {
		got, f := chain.Play(l, come, takes, 40)
		if f != (api.Fault{}) || !sameLists(got, want) {
			t.Fatalf("%v %v, want %v", got, f, want)
		}
		if !slices.Equal(allParts, keptParts) || !slices.Equal(allComes, keptComes) || !slices.Equal(allTakes, keptTakes) {
			t.Fatalf("changed: %v %v %v", allParts, allComes, allTakes)
		}
		for n, ends := range got {
			for i := range ends[:cap(ends)] {
				ends[:cap(ends)][i] = -7
			}
			if !sameLists(got[n+1:], want[n+1:]) {
				t.Fatalf("lists share memory: %v", got)
			}
		}
		for n := range got[:cap(got)] {
			got[:cap(got)][n] = nil
		}
	}
}
