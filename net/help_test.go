package net_test

import (
	"fmt"
	"math"
	"math/rand"
	"slices"
	"testing"

	"punctual/api"
	"punctual/net"
)

const (
	longest  = 100000  // the longest time that is looked for
	farthest = 1 << 40 // from 0, of what a clock says
)

func fault(code api.Errno, at int) api.Fault { return api.Fault{Code: code, At: at} }

func ints(l ...int) []int { return l }

func lists(l ...[]int) [][]int { return l }

// frames are messages.
func frames(l ...api.Frame) []api.Frame { return l }

// frame is a message that has much time.
func frame(c, t, j int) api.Frame { return api.Frame{C: c, T: t, D: api.MaxTime, J: j} }

// till is a message with a D of its own that is never late.
func till(c, t, d int) api.Frame { return api.Frame{C: c, T: t, D: d} }

// several are n messages that nothing is wrong with, and that are in time.
func several(n int) []api.Frame {
	l := make([]api.Frame, n)
	for i := range l {
		l[i] = api.Frame{C: 1 + i%3, T: 100 + i, D: 90, J: 2 + i}
	}
	return l
}

// comes are pairs of a message and when it comes.
func comes(l ...int) []api.Come {
	var all []api.Come
	for i := 0; i < len(l); i += 2 {
		all = append(all, api.Come{Task: l[i], At: l[i+1]})
	}
	return all
}

// changed is a copy of a list of which one entry is changed.
func changed[E any](l []E, i int, change func(e *E)) []E {
	l = slices.Clone(l)
	change(&l[i])
	return l
}

// with is a copy of a list that has another number at i.
func with(l []int, i, n int) []int { return changed(l, i, func(e *int) { *e = n }) }

// none are n times -1.
func none(n int) []int { return slices.Repeat(ints(-1), n) }

// runs writes down who ran: each number so many times as the one behind it says.
func runs(l ...int) []int {
	var all []int
	for i := 0; i < len(l); i += 2 {
		all = append(all, slices.Repeat(l[i:i+1], l[i+1])...)
	}
	return all
}

// wantCheck: does Check say so, and, if something is wrong, Times and Send, too, whatever else is wrong?
func wantCheck(t *testing.T, what string, l []api.Frame, want api.Fault) {
	t.Helper()
	if got := net.Check(l); got != want {
		t.Errorf("Check, %s: %v, want %v (%v)", what, got, want, l)
	}
	if want == (api.Fault{}) {
		return
	}
	wantNoTimes(t, what, l, want)
	for _, until := range ints(-1, 0, 9, api.MaxUntil+1) {
		wantNoSend(t, what, l, nil, nil, until, want)
		wantNoSend(t, what, l, comes(0, 0), ints(0), until, want)
		wantNoSend(t, what, l, comes(0, 0), nil, until, want)
		wantNoSend(t, what, l, comes(-1, -1), ints(-1), until, want)
	}
	wantNoSend(t, what, l, make([]api.Come, api.MaxJobs+1), make([]int, api.MaxJobs+1), 9, want)
}

func wantTimes(t *testing.T, what string, l []api.Frame, want ...int) {
	t.Helper()
	if got, f := net.Times(l); f != (api.Fault{}) || !slices.Equal(got, want) {
		t.Errorf("Times, %s: %v %v, want %v (%v)", what, got, f, want, l)
	}
}

func wantNoTimes(t *testing.T, what string, l []api.Frame, want api.Fault) {
	t.Helper()
	if got, f := net.Times(l); f != want || got != nil {
		t.Errorf("Times, %s: %v %v, want %v (%v)", what, got, f, want, l)
	}
}

// wantSend: do they go so, in as many ticks as are wanted?
func wantSend(t *testing.T, what string, l []api.Frame, come []api.Come, late, ran, ends []int) {
	t.Helper()
	p, f := net.Send(l, come, late, len(ran))
	if f != (api.Fault{}) || !slices.Equal(p.Runs, ran) || !slices.Equal(p.Ends, ends) {
		t.Errorf("Send, %s: %.300s %v, want %.300s %.300s (%v, %.300s, %.300s)", what, fmt.Sprint(p), f,
			fmt.Sprint(ran), fmt.Sprint(ends), l, fmt.Sprint(come), fmt.Sprint(late))
	}
}

func wantNoSend(t *testing.T, what string, l []api.Frame, come []api.Come, late []int, until int, want api.Fault) {
	t.Helper()
	if p, f := net.Send(l, come, late, until); f != want || p.Runs != nil || p.Ends != nil {
		t.Errorf("Send, %s, until %d: %.300s %v, want %v", what, until, fmt.Sprint(p), f, want)
	}
}

func wantMiddle(t *testing.T, what string, heard []int, liars, want int) {
	t.Helper()
	if got, code := net.Middle(heard, liars); code != api.OK || got != want {
		t.Errorf("Middle, %s: %d %d, want %d (%v, %d)", what, got, code, want, heard, liars)
	}
}

func wantNoMiddle(t *testing.T, what string, heard []int, liars int, want api.Errno) {
	t.Helper()
	if got, code := net.Middle(heard, liars); code != want || got != 0 {
		t.Errorf("Middle, %s: %d %d, want %d (%v, %d)", what, got, code, want, heard, liars)
	}
}

func wantRound(t *testing.T, what string, heard [][]int, liars int, drift []int, want ...int) {
	t.Helper()
	if got, f := net.Round(heard, liars, drift); f != (api.Fault{}) || !slices.Equal(got, want) {
		t.Errorf("Round, %s: %v %v, want %v (%v, %d, %v)", what, got, f, want, heard, liars, drift)
	}
}

func wantNoRound(t *testing.T, what string, heard [][]int, liars int, drift []int, want api.Fault) {
	t.Helper()
	if got, f := net.Round(heard, liars, drift); f != want || got != nil {
		t.Errorf("Round, %s: %v %v, want %v (%v, %d, %v)", what, got, f, want, heard, liars, drift)
	}
}

// told is what otherTimes finds.
type told struct {
	times   []int // with a fault, too: up to the message that takes longer than D; none if a w isn't there
	f       api.Fault
	busiest int // the longest busy time
	at      int // the greatest q at which a message takes longest
}

// otherTimes is P15.2 word by word, of what nothing is wrong with: each w is tried, from the least one on.
func otherTimes(l []api.Frame) told {
	var out told
	for i, m := range l {
		b := 0
		for _, o := range l[i+1:] {
			b = max(b, o.C-1)
		}
		busy := 1
		for busy != b+asked(l[:i+1], busy-1) {
			if busy++; busy > longest {
				return told{f: fault(api.ErrNone, i)}
			}
		}
		out.busiest = max(out.busiest, busy)
		out.times = append(out.times, 0)
		for q := 0; q*m.T < busy+m.J; q++ {
			w := b + q*m.C
			for w != b+q*m.C+asked(l[:i], w) {
				if w++; w > longest {
					return told{f: fault(api.ErrNone, i)}
				}
			}
			if n := m.J + w - q*m.T + m.C; n > out.times[i] {
				out.times[i] = n
				out.at = max(out.at, q)
			}
		}
		if out.times[i] > m.D {
			out.f = fault(api.ErrNone, i)
			return out
		}
	}
	return out
}

// asked is what messages ask for that are there at last at a time, if all of them were there at 0, as late as may be, and come as soon as they may from then on.
func asked(l []api.Frame, last int) int {
	sum := 0
	for _, m := range l {
		sum += ((last+m.J)/m.T + 1) * m.C
	}
	return sum
}

// sent is what otherSend sees on its way.
type sent struct {
	waits    int // ticks in which one goes on though one that would go ahead of it is there
	together int // ticks in which two or more are there
	same     int // ticks in which one goes, and another one of its kind is there, too
	open     int // messages that aren't over
}

// otherSend is P15.3 with chapter 8's words, of what nothing is wrong with: tick by tick, all that come are looked at, and how long each has run is counted anew in who ran.
func (s *sent) otherSend(l []api.Frame, come []api.Come, late []int, until int) (ran, ends []int) {
	ends = none(len(come))
	count := func(who int) int {
		n := 0
		for _, k := range ran {
			if k == who {
				n++
			}
		}
		return n
	}
	for now := range until {
		var there []int
		for i, c := range come {
			if c.At+late[i] <= now && ends[i] < 0 {
				there = append(there, i)
			}
		}
		first := -1
		for _, i := range there {
			if first < 0 || come[i].Task < come[first].Task || come[i].Task == come[first].Task && come[i].At+late[i] < come[first].At+late[first] {
				first = i
			}
		}
		who := first
		if now > 0 && slices.Contains(there, ran[now-1]) {
			who = ran[now-1]
		}
		s.look(come, there, who, first)
		if ran = append(ran, who); who >= 0 && count(who) == l[come[who].Task].C {
			ends[who] = now + 1
		}
	}
	for _, end := range ends {
		if end < 0 {
			s.open++
		}
	}
	return ran, ends
}

// look counts what a tick shows.
func (s *sent) look(come []api.Come, there []int, who, first int) {
	if len(there) > 1 {
		s.together++
	}
	if who != first {
		s.waits++
	}
	if slices.ContainsFunc(there, func(i int) bool { return i != who && come[i].Task == come[who].Task }) {
		s.same++
	}
}

// otherMiddle is P15.5 word by word, of what nothing is wrong with: the least and the greatest ones are taken out one by one.
func otherMiddle(heard []int, liars int) int {
	left := slices.Clone(heard)
	takeOut := func(n int) {
		k := slices.Index(left, n)
		left = slices.Delete(left, k, k+1)
	}
	for range liars {
		takeOut(slices.Min(left))
		takeOut(slices.Max(left))
	}
	return int(math.Floor(float64(slices.Min(left)+slices.Max(left)) / 2))
}

// maker makes messages, comings and clocks, always the same ones from the same seed.
type maker struct{ *rand.Rand }

func newMaker(seed int64) maker { return maker{rand.New(rand.NewSource(seed))} }

// one is one of some numbers.
func (m maker) one(l ...int) int { return l[m.Intn(len(l))] }

// within is a number from least to most.
func (m maker) within(least, most int) int { return least + m.Intn(most-least+1) }

// frames are n messages with periods up to most, which together use about share hundredths of the bus; some are late.
func (m maker) frames(n, most, share int) []api.Frame {
	var l []api.Frame
	lazy := m.Intn(3)
	for range n {
		period := m.within(min(2, most), most)
		c := min(period, max(1, period*m.Intn(2*share+1)/(100*n)))
		j := 0
		switch m.Intn(4) * lazy {
		case 1, 2:
			j = m.Intn(1 + period/4)
		case 3:
			j = m.Intn(1 + period)
		case 4:
			j = period
		}
		l = append(l, api.Frame{C: c, T: period, D: api.MaxTime, J: j})
		if m.Intn(8) == 0 {
			l[len(l)-1].D = m.within(c, min(api.MaxTime, 3*period))
		}
	}
	return l
}

// comes lets messages come as soon as they may, or now and then later, ahead of until: in order.
func (m maker) comes(l []api.Frame, until int) []api.Come {
	lazy := m.one(0, 0, 4, 20)
	next := make([]int, len(l))
	for i, f := range l {
		next[i] = m.one(0, m.Intn(f.T), m.Intn(1+lazy))
	}
	var all []api.Come
	for now := range until {
		for _, i := range m.Perm(len(l)) {
			if now == next[i] {
				all = append(all, api.Come{Task: i, At: now})
				next[i] += l[i].T + m.Intn(1+lazy)
			}
		}
	}
	return all
}

// late is of each come how late it is: not at all, as late as may be, or between.
func (m maker) late(l []api.Frame, come []api.Come) []int {
	kind := m.Intn(4)
	all := make([]int, len(come))
	for i, c := range come {
		j := l[c.Task].J
		switch {
		case kind == 1, kind == 2 && i < len(l): // the first ones alone: so the next ones follow closely
			all[i] = j
		case kind == 3:
			all[i] = m.Intn(j + 1)
		}
	}
	return all
}
