package net_test

import (
	"slices"
	"testing"

	"punctual/api"
	"punctual/net"
)

// over is of each come how long it took from its coming till it was over.
func over(t *testing.T, l []api.Frame, come []api.Come, late []int, until int) []int {
	t.Helper()
	p, f := net.Send(l, come, late, until)
	if f != (api.Fault{}) {
		t.Fatalf("Send: %v (%v, %v, %v)", f, l, come, late)
	}
	took := make([]int, len(come))
	for i, c := range come {
		if p.Ends[i] < 0 {
			t.Fatalf("%v isn't over at %d (%v)", c, until, l)
		}
		took[i] = p.Ends[i] - c.At
	}
	return took
}

// full lets messages take more and more, as long as they are in time.
func (m maker) full(l []api.Frame) []api.Frame {
	for range 40 {
		next := changed(l, m.Intn(len(l)), func(f *api.Frame) { f.C = min(f.D, f.C+m.one(1, 1+f.T/20)) })
		if _, f := net.Times(next); f.Code == api.OK {
			l = next
		}
	}
	return l
}

// TestEachIsOverSoSoon is P15.4.
func TestEachIsOverSoSoon(t *testing.T) {
	m := newMaker(163)
	lists, just, late, held := 0, 0, 0, 0
	for range 3000 {
		l := m.frames(m.within(1, 6), m.one(6, 12, 30), m.one(30, 60, 80))
		if m.Intn(2) == 0 {
			l = m.full(l)
		}
		times, f := net.Times(l)
		if f.Code != api.OK || slices.Max(times) > 300 {
			continue
		}
		lists++
		for range 5 {
			come := m.comes(l, 150)
			for i, took := range over(t, l, come, m.late(l, come), 500) {
				k := come[i].Task
				if took > min(times[k], l[k].D) {
					t.Fatalf("%v took %d, but takes %d at worst (%v)", come[i], took, times[k], l)
				}
				if took == times[k] {
					just++
					if l[k].J > 0 {
						late++
					}
					if took > l[k].C+l[k].J {
						held++
					}
				}
			}
		}
	}
	if lists < 1000 || just < 10000 || late < 1000 || held < 5000 {
		t.Errorf("%d lists; %d took just so long, %d of them could be late, %d of them had to wait", lists, just, late, held)
	}
}

// TestEachIsOverSoSoonForLong: great numbers, over all ticks that are played.
func TestEachIsOverSoSoonForLong(t *testing.T) {
	m := newMaker(164)
	lists := 0
	for range 300 {
		l := m.full(m.frames(m.within(2, api.MaxTasks), m.one(200, 1000, 4000), m.one(40, 70)))
		times, f := net.Times(l)
		if f.Code != api.OK {
			continue
		}
		come := m.comes(l, api.MaxUntil-slices.Max(times))
		if len(come) > api.MaxJobs {
			continue
		}
		lists++
		for i, took := range over(t, l, come, m.late(l, come), api.MaxUntil) {
			if took > times[come[i].Task] {
				t.Fatalf("%v took %d, but takes %d at worst (%v)", come[i], took, times[come[i].Task], l)
			}
		}
	}
	if lists < 100 {
		t.Errorf("%d lists", lists)
	}
}

// patterns are all lists of times ahead of until that lie so many ticks apart, or more.
func patterns(every, until int) [][]int {
	all := lists(nil)
	for at := range until {
		for _, l := range all {
			if len(l) == 0 || at-l[len(l)-1] >= every {
				all = append(all, append(slices.Clone(l), at))
			}
		}
	}
	return all
}

// eachComing calls with each way in which messages may come ahead of until, and be late.
func eachComing(l []api.Frame, until int, call func(come []api.Come, late []int)) {
	at := make([][]int, len(l))
	var choose func(i int)
	var delay func(come []api.Come, late []int)
	delay = func(come []api.Come, late []int) {
		if len(late) == len(come) {
			call(come, late)
			return
		}
		for n := range l[come[len(late)].Task].J + 1 {
			delay(come, append(slices.Clip(late), n))
		}
	}
	choose = func(i int) {
		if i < len(l) {
			for _, times := range patterns(l[i].T, until) {
				at[i] = times
				choose(i + 1)
			}
			return
		}
		var come []api.Come
		for now := range until {
			for k, times := range at {
				if slices.Contains(times, now) {
					come = append(come, api.Come{Task: k, At: now})
				}
			}
		}
		delay(come, nil)
	}
	choose(0)
}

// TestEveryComing is P15.4 of some small messages, however they come at first; the times are reached.
func TestEveryComing(t *testing.T) {
	for _, c := range []struct {
		until int
		l     []api.Frame
	}{
		{8, frames(frame(1, 3, 1), frame(2, 6, 0))},
		{8, frames(frame(2, 5, 2), frame(2, 5, 0))},
		{8, frames(frame(1, 3, 3), frame(1, 4, 1))},
		{8, frames(frame(2, 4, 0), frame(3, 9, 2))},
		{8, frames(frame(1, 4, 0), frame(1, 4, 1), frame(2, 5, 0))},
		{11, frames(frame(2, 5, 0), frame(2, 7, 0), frame(2, 7, 0))},
		{11, frames(frame(1, 2, 0), frame(2, 4, 0))},
	} {
		l := c.l
		times, f := net.Times(l)
		if f != (api.Fault{}) {
			t.Fatalf("Times: %v (%v)", f, l)
		}
		longest := make([]int, len(l))
		eachComing(l, c.until, func(come []api.Come, late []int) {
			for i, took := range over(t, l, come, late, 60) {
				k := come[i].Task
				if took > times[k] {
					t.Fatalf("%v took %d, but takes %d at worst (%v, %v, %v)", come[i], took, times[k], l, come, late)
				}
				longest[k] = max(longest[k], took)
			}
		})
		if !slices.Equal(longest, times) {
			t.Errorf("they took %v, want %v (%v)", longest, times, l)
		}
	}
}

// worstComing is how message i is over as late as can be: the longest one behind it has begun a tick ahead, and then it and all ahead of it are there, each as late as may be, and from then on as soon as may be.
func worstComing(l []api.Frame, i, until int) ([]api.Come, []int) {
	begin := 0
	for _, f := range l[:i+1] {
		begin = max(begin, f.J)
	}
	var come []api.Come
	var late []int
	for k := i + 1; k < len(l); k++ {
		if len(come) == 0 || l[k].C > l[come[0].Task].C {
			come, late = comes(k, begin), ints(0)
		}
	}
	begin += len(come)
	for k, f := range l[:i+1] {
		for at := begin - f.J; at < until; at += f.T {
			come, late = append(come, api.Come{Task: k, At: at}), append(late, max(0, begin-at))
		}
	}
	return come, late
}

// longestOf is how long message i takes at most if it comes so; those behind until aren't asked.
func longestOf(t *testing.T, l []api.Frame, i int, come []api.Come, late []int, until int) int {
	t.Helper()
	p, f := net.Send(l, come, late, until)
	if f != (api.Fault{}) {
		t.Fatalf("Send: %v (%v)", f, l)
	}
	longest := 0
	for k, c := range come {
		if c.Task == i && p.Ends[k] >= 0 {
			longest = max(longest, p.Ends[k]-c.At)
		}
	}
	return longest
}

// TestTimesAreReached: what Times tells is no longer than it must be: in the worst case it takes just so long; and where that is above D, it is late.
func TestTimesAreReached(t *testing.T) {
	m := newMaker(165)
	reached, again, missed := 0, 0, 0
	for range 4000 {
		l := m.frames(m.within(1, 6), m.one(6, 12, 30, 100), m.one(40, 70, 90))
		if m.Intn(3) == 0 {
			c := m.within(2, 6)
			for i := range l {
				l[i] = frame(c, m.within(len(l)*c*8/10, len(l)*c*13/10), 0)
			}
		}
		want := otherTimes(l)
		if want.busiest > 1000 {
			continue
		}
		if want.at > 0 {
			again++
		}
		times, f := net.Times(l)
		for i, time := range want.times {
			come, late := worstComing(l, i, 1500)
			if len(come) > api.MaxJobs {
				continue
			}
			longest := longestOf(t, l, i, come, late, 4000)
			switch {
			case longest != time:
				t.Fatalf("message %d took %d at worst, want %d (%v)", i, longest, time, l)
			case longest > l[i].D:
				missed++
				if f != fault(api.ErrNone, i) {
					t.Fatalf("message %d is late, but %v (%v)", i, f, l)
				}
			case f.Code == api.OK:
				reached++
				if longest != times[i] {
					t.Fatalf("message %d took %d at worst, want %v (%v)", i, longest, times, l)
				}
			}
		}
	}
	if reached < 3000 || again < 100 || missed < 100 {
		t.Errorf("%d times are reached, %d lists of which one is by a second message, %d are missed", reached, again, missed)
	}
}

// TestPremises: messages that come oftener than every T, or are told in no order, may take longer.
func TestPremises(t *testing.T) {
	l := frames(frame(2, 10, 0), frame(2, 10, 0))
	wantTimes(t, "two", l, 3, 4)
	if took := over(t, l, comes(1, 0, 0, 0, 0, 1), ints(0, 0, 0), 20); took[0] != 6 {
		t.Errorf("took %v", took)
	}
	if took := over(t, l, comes(1, 0, 0, 0, 0, 10), ints(0, 0, 0), 20); !slices.Equal(took, ints(4, 2, 2)) {
		t.Errorf("took %v", took)
	}
	// Of two of one kind that are there at one time the first one of the list goes ahead: so those that come stand in their order.
	l = frames(frame(1, 5, 5))
	wantTimes(t, "as late as the next one", l, 6)
	if took := over(t, l, comes(0, 0, 0, 5), ints(5, 0), 20); !slices.Equal(took, ints(6, 2)) {
		t.Errorf("took %v", took)
	}
	if took := over(t, l, comes(0, 5, 0, 0), ints(0, 5), 20); !slices.Equal(took, ints(1, 7)) {
		t.Errorf("took %v", took)
	}
}

// apart is how far apart those clocks are that don't lie.
func apart(say []int, lies []bool) int {
	least, most := 0, 0
	first := true
	for i, n := range say {
		if lies[i] {
			continue
		}
		if first {
			least, most, first = n, n, false
		}
		least, most = min(least, n), max(most, n)
	}
	return most - least
}

// world are clocks of which some lie.
type world struct {
	say   []int
	lies  []bool
	liars int // how many may lie
}

// world is one of n clocks of which those that don't lie are no more than s apart.
func (m maker) world(n, liars, s int) world {
	w := world{say: make([]int, n), lies: make([]bool, n), liars: liars}
	for _, i := range m.Perm(n)[:m.one(liars, liars, m.Intn(liars+1))] {
		w.lies[i] = true
	}
	about := m.one(0, 1000, -1000, 1<<39, -1<<39)
	for i := range w.say {
		w.say[i] = about + m.one(0, s, m.Intn(s+1))
	}
	return w
}

// lie is what one that lies says to clock i: all to one side, to each another one, or within what the others say.
func (m maker) lie(w world, i, kind int) int {
	honest := slices.Index(w.lies, false)
	switch kind {
	case 0:
		return m.within(-farthest, farthest)
	case 1:
		return m.one(-farthest, farthest)
	case 2: // far to one side, to each clock to the same one always
		return (2*(i%2) - 1) * farthest
	case 3: // as those say that are ahead, to those that are ahead
		if w.say[i] > w.say[honest] {
			return slices.Max(w.say)
		}
		return slices.Min(w.say)
	case 4: // away from where it is
		return w.say[i] + m.one(-1, 1)*m.Intn(20)
	}
	return w.say[m.Intn(len(w.say))]
}

// heard is what each clock hears: of those that don't lie at most e beside what they say, of itself mostly just that.
func (m maker) heard(w world, e int) [][]int {
	heard := square(len(w.say))
	kind, noise := m.Intn(6), m.Intn(4)
	for i := range heard {
		side := m.one(-e, e)
		for k, said := range w.say {
			switch {
			case w.lies[k]:
				heard[i][k] = m.lie(w, i, kind)
			case i == k && m.Intn(4) > 0:
				heard[i][k] = said
			case noise == 0: // all to one side, to each clock to another one
				heard[i][k] = said + side
			case noise == 1:
				heard[i][k] = said + m.one(-e, e)
			default:
				heard[i][k] = said + m.within(-e, e)
			}
		}
	}
	return heard
}

// drift is how far each clock drifts: those that don't lie from -r to r.
func (m maker) drift(w world, r int) []int {
	l := make([]int, len(w.say))
	kind := m.Intn(3)
	for i := range l {
		switch {
		case w.lies[i]:
			l[i] = m.within(-farthest, farthest)
		case kind == 0:
			l[i] = m.one(-r, r)
		default:
			l[i] = m.within(-r, r)
		}
	}
	return l
}

// round is what all clocks say at the next time.
func (w world) round(t *testing.T, heard [][]int, drift []int) world {
	t.Helper()
	next, f := net.Round(heard, w.liars, drift)
	if f != (api.Fault{}) {
		t.Fatalf("Round: %v (%v, %d, %v)", f, heard, w.liars, drift)
	}
	return world{say: next, lies: w.lies, liars: w.liars}
}

// bound is how far apart clocks may be behind a round.
func bound(s, e, r int) int { return (s+4*e+1)/2 + 2*r }

// TestClocksComeTogether is the first half of P15.7.
func TestClocksComeTogether(t *testing.T) {
	m := newMaker(166)
	var rounds, just, far [api.MaxNodes + 1]int
	for range 60000 {
		n := m.within(1, api.MaxNodes)
		w := m.world(n, m.one((n-1)/3, m.Intn((n-1)/3+1)), m.one(0, 1, 2, 5, 50, 1000, 1<<38))
		s, e, r := apart(w.say, w.lies), m.one(0, 0, 1, 2, 7, 100), m.one(0, 0, 1, 3, 50)
		heard, drift := m.heard(w, e), m.drift(w, r)
		after := apart(w.round(t, heard, drift).say, w.lies)
		if after > bound(s, e, r) {
			t.Fatalf("%d apart behind a round, but at most %d may be (%v, %v, %v)", after, bound(s, e, r), w, heard, drift)
		}
		rounds[n]++
		if s+e+r > 0 && after == bound(s, e, r) {
			just[n]++
		}
		if 10*after >= 9*bound(s, e, r) && w.liars > 0 && slices.Contains(w.lies, true) {
			far[n]++
		}
	}
	for n := range rounds {
		if n > 0 && rounds[n] < 3000 || n >= 4 && (just[n] < 50 || far[n] < 50) {
			t.Errorf("of %d: %d rounds, %d just so far apart, %d nearly, with liars", n, rounds[n], just[n], far[n])
		}
	}
}

// TestClocksJust: one that lies drives two apart as far as may be, each of which hears itself just as it is.
func TestClocksJust(t *testing.T) {
	for s := range 12 {
		for e := range 5 {
			for r := range 4 {
				for x := range s + 1 {
					heard := lists(ints(0, x+e, s+e, farthest), ints(0, x, s, 0), ints(-e, x-e, s, -farthest), ints(0, 0, 0, 0))
					next, f := net.Round(heard, 1, ints(r, 0, -r, farthest))
					most := bound(s, e, r)
					if (s+x)%2 != 0 && s%2 != 0 { // the greater half alone is rounded down
						most--
					}
					if f != (api.Fault{}) || next[0]-next[2] != most {
						t.Errorf("%v %v, want them %d apart (s %d, e %d, r %d, x %d)", next, f, most, s, e, r, x)
					}
				}
			}
		}
	}
}

// eachHeard calls with all that a clock may hear: three that say so, at most e beside it, and one that lies.
func eachHeard(say []int, e int, lies []int, call func(heard []int)) {
	var lay func(heard []int)
	lay = func(heard []int) {
		if len(heard) == len(say) {
			for _, lie := range lies {
				call(append(slices.Clip(heard), lie))
			}
			return
		}
		for n := -e; n <= e; n++ {
			lay(append(slices.Clip(heard), say[len(heard)]+n))
		}
	}
	lay(nil)
}

// TestEveryLie is the first half of P15.7 of three clocks that say some few times, beside one that lies, whatever is heard.
func TestEveryLie(t *testing.T) {
	seen := 0
	for e := range 2 {
		for x := range 4 {
			for y := range 4 {
				say := ints(0, x, y)
				s := max(x, y)
				var all [][]int
				eachHeard(say, e, ints(-99, -1, 0, 1, 2, 3, 4, 99), func(heard []int) { all = append(all, heard) })
				for _, a := range all {
					for _, b := range all {
						next, f := net.Round(lists(a, b, a, b), 1, make([]int, 4))
						if f != (api.Fault{}) || next[1]-next[0] > bound(s, e, 0) {
							t.Fatalf("%v %v, want them at most %d apart (%v, %v)", next, f, bound(s, e, 0), a, b)
						}
						if next[1]-next[0] == bound(s, e, 0) {
							seen++
						}
					}
				}
			}
		}
	}
	if seen < 1000 {
		t.Errorf("%d times as far apart as may be", seen)
	}
}

// TestClocksStayTogether is the second half of P15.7: round by round.
func TestClocksStayTogether(t *testing.T) {
	m := newMaker(167)
	just := 0
	for range 10000 {
		n := m.within(1, api.MaxNodes)
		e, r := m.one(0, 1, 2, 9), m.one(0, 1, 5)
		b := 4*e + 4*r + 1 + m.one(0, 0, 1, 10)
		w := m.world(n, (n-1)/3, b)
		for range 20 {
			if slices.ContainsFunc(w.say, func(said int) bool { return said < -farthest+100 || said > farthest-100 }) {
				for i := range w.say { // those that lie may say what can't be heard: the others don't get so far
					if w.lies[i] {
						w.say[i] = 0
					}
				}
			}
			w = w.round(t, m.heard(w, e), m.drift(w, r))
			if d := apart(w.say, w.lies); d > b {
				t.Fatalf("%d apart, but at most %d may be (%v)", d, b, w)
			} else if d == b {
				just++
			}
		}
	}
	if just < 50 {
		t.Errorf("%d times as far apart as may be", just)
	}
}

// TestTooManyLiars: where a third lie, nothing is said: one of three drives two apart for ever, if it isn't left out.
func TestTooManyLiars(t *testing.T) {
	wantNoRound(t, "one of three", lists(ints(0, 10, -90), ints(0, 10, 100), ints(0, 0, 0)), 1, ints(0, 0, 0), fault(api.ErrNone, 0))
	wantRound(t, "as if nobody lied", lists(ints(0, 10, -90), ints(0, 10, 100), ints(0, 0, 0)), 0, ints(0, 0, 0), -40, 50, 0)
	wantRound(t, "two of four, as if one lied", lists(ints(0, 10, -90, -90), ints(0, 10, 100, 100), ints(0, 0, 0, 0), ints(0, 0, 0, 0)), 1, ints(0, 0, 0, 0), -45, 55, 0, 0)
}
