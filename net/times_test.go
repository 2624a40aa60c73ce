package net_test

import (
	"math"
	"slices"
	"testing"

	"punctual/api"
	"punctual/net"
)

// far are numbers that may stand nowhere.
func far() []int { return ints(math.MinInt, math.MaxInt, math.MinInt+1, math.MaxInt-1) }

func TestCheckHowMany(t *testing.T) {
	for n := 1; n <= api.MaxTasks; n++ {
		wantCheck(t, "as many as may be", several(n), api.Fault{})
	}
	wantCheck(t, "none", nil, fault(api.ErrMany, 0))
	wantCheck(t, "none", frames(), fault(api.ErrMany, 0))
	for _, n := range ints(api.MaxTasks+1, api.MaxTasks+2, 100) {
		wantCheck(t, "too many", several(n), fault(api.ErrMany, 0))
		wantCheck(t, "too many, and all wrong", make([]api.Frame, n), fault(api.ErrMany, 0))
	}
}

// TestCheckEach: both ends of each number, at each place; the first message of which something is wrong is told.
func TestCheckEach(t *testing.T) {
	all := several(api.MaxTasks)
	for i := range all {
		set := func(change func(f *api.Frame, n int), n int) []api.Frame {
			return changed(all, i, func(f *api.Frame) { change(f, n) })
		}
		for what, change := range map[string]func(f *api.Frame, n int){
			"C": func(f *api.Frame, n int) { f.C = n },
			"T": func(f *api.Frame, n int) { f.T, f.J = n, 0 },
			"D": func(f *api.Frame, n int) { f.D = n },
		} {
			for _, n := range ints(1, 2, api.MaxTime-1, api.MaxTime) {
				wantCheck(t, what, set(change, n), api.Fault{})
			}
			for _, n := range append(far(), 0, -1, api.MaxTime+1) {
				wantCheck(t, what, set(change, n), fault(api.ErrRange, i))
			}
		}
		late := func(period, j int) []api.Frame {
			return changed(all, i, func(f *api.Frame) { f.T, f.J = period, j })
		}
		for _, period := range ints(1, 2, 50, api.MaxTime) {
			for _, j := range ints(0, 1, period-1, period) {
				wantCheck(t, "J up to T", late(period, j), api.Fault{})
			}
			for _, j := range append(far(), -1, -2, api.MaxTime+1) {
				wantCheck(t, "J", late(period, j), fault(api.ErrRange, i))
			}
			if period < api.MaxTime {
				wantCheck(t, "J at T + 1", late(period, period+1), fault(api.ErrOrder, i))
				wantCheck(t, "J far above T", late(period, api.MaxTime), fault(api.ErrOrder, i))
			}
		}
	}
}

// TestCheckFirst: message by message, and of one message the range ahead of the order.
func TestCheckFirst(t *testing.T) {
	all := several(api.MaxTasks)
	disorder := func(f *api.Frame) { f.J = f.T + 1 }
	for i := range all {
		for _, wrong := range []func(f *api.Frame){
			func(f *api.Frame) { f.C = 0 },
			func(f *api.Frame) { f.C = api.MaxTime + 1 },
			func(f *api.Frame) { f.T = 0 }, // J is above it
			func(f *api.Frame) { f.T = -1 },
			func(f *api.Frame) { f.D = 0 },
			func(f *api.Frame) { f.D = api.MaxTime + 1 },
			func(f *api.Frame) { f.J = api.MaxTime + 1 },
		} {
			wantCheck(t, "both of one", changed(changed(all, i, disorder), i, wrong), fault(api.ErrRange, i))
			for k := i + 1; k < len(all); k++ {
				wantCheck(t, "the range, then the order", changed(changed(all, i, wrong), k, disorder), fault(api.ErrRange, i))
				wantCheck(t, "the order, then the range", changed(changed(all, i, disorder), k, wrong), fault(api.ErrOrder, i))
			}
		}
	}
	// Neither D above T, nor D below C, nor C above T is wrong by itself.
	wantCheck(t, "D above T", frames(till(1, 2, 9)), api.Fault{})
	wantCheck(t, "D below C", frames(till(5, 9, 3)), api.Fault{})
	wantCheck(t, "C above T", frames(till(9, 5, 3)), api.Fault{})
}

func TestTimes(t *testing.T) {
	for _, c := range []struct {
		what string
		l    []api.Frame
		want []int
	}{
		{"of the document's tests", frames(till(2, 10, 10), till(3, 10, 10), till(2, 20, 20)), ints(4, 6, 7)},
		{"one", frames(frame(3, 10, 0)), ints(3)},
		{"one, as short as may be", frames(till(1, 1, 1)), ints(1)},
		{"one, as long as may be", frames(till(api.MaxTime, api.MaxTime, api.MaxTime)), ints(api.MaxTime)},
		{"one that needs all the time", frames(frame(5, 5, 0)), ints(5)},
		{"one that may be late", frames(frame(3, 10, 4)), ints(7)},
		{"one that may be late, by T", frames(frame(3, 10, 10)), ints(13)},
		{"the last one isn't held up", frames(frame(1, 9, 0), frame(1, 9, 0)), ints(1, 2)},
		{"one behind it that takes one tick can't hold it up", frames(frame(4, 20, 0), frame(1, 20, 0)), ints(4, 5)},
		{"one behind it that takes two ticks can", frames(frame(4, 20, 0), frame(2, 20, 0)), ints(5, 6)},
		{"the greatest one behind it", frames(frame(1, 50, 0), frame(3, 50, 0), frame(9, 50, 0), frame(5, 50, 0)), ints(9, 12, 17, 18)},
		{"the greatest one stands ahead", frames(frame(9, 50, 0), frame(1, 50, 0), frame(2, 50, 0)), ints(10, 11, 12)},
		{"one ahead comes again just as it would begin", frames(frame(2, 4, 0), frame(2, 12, 0), frame(2, 12, 0)), ints(3, 5, 8)},
		{"one ahead comes a tick too late to go ahead again", frames(frame(2, 5, 0), frame(2, 12, 0), frame(1, 12, 0)), ints(3, 4, 5)},
		{"one ahead that may be late comes again sooner", frames(frame(2, 10, 0), frame(2, 20, 0)), ints(3, 4)},
		{"one ahead that may be late comes again sooner", frames(frame(2, 10, 8), frame(2, 20, 0)), ints(11, 6)},
		{"one ahead that may be a tick less late doesn't", frames(frame(2, 10, 7), frame(2, 20, 0)), ints(10, 4)},
		{"its own J, and that of one ahead", frames(frame(2, 10, 8), frame(2, 20, 5)), ints(11, 11)},
		{"the second one of its kind takes longer", frames(till(4, 10, 10), till(4, 14, 11), till(4, 14, 14)), ints(7, 11, 14)},
		{"the first one of its kind takes longest", frames(frame(3, 5, 5), frame(4, 15, 0)), ints(11, 13)},
		{"the held one comes again while it is held up", frames(frame(2, 5, 0), frame(9, 100, 0)), ints(10, 11)},
		{"together just all there is", frames(frame(1, 2, 0), frame(1, 4, 0), frame(2, 8, 0)), ints(2, 4, 5)},
		{"both ends of C beside each other", frames(frame(1, 9000, 0), frame(5000, 9000, 0)), ints(5000, 5001)},
	} {
		wantTimes(t, c.what, c.l, c.want...)
	}
}

// TestTimesDue: a time may be D, and no more; the first message that isn't in time is told.
func TestTimesDue(t *testing.T) {
	for _, l := range [][]api.Frame{
		frames(frame(3, 10, 4)),
		frames(till(4, 10, 10), till(4, 14, 11), till(4, 14, 14)),
		frames(frame(2, 10, 8), frame(2, 20, 5), frame(1, 30, 30)),
		several(api.MaxTasks),
	} {
		times, f := net.Times(l)
		if f != (api.Fault{}) || len(times) != len(l) {
			t.Fatalf("Times: %v %v (%v)", times, f, l)
		}
		just := slices.Clone(l)
		for i := range just {
			just[i].D = times[i]
		}
		wantTimes(t, "just in time", just, times...)
		for i := range just {
			less := changed(just, i, func(f *api.Frame) { f.D-- })
			wantNoTimes(t, "a tick less", less, fault(api.ErrNone, i))
			for k := i + 1; k < len(just); k++ {
				wantNoTimes(t, "the first one", changed(less, k, func(f *api.Frame) { f.D = 1 }), fault(api.ErrNone, i))
			}
		}
	}
}

// TestTimesLongest: a busy time of 100000 ticks is still one, one of 100001 isn't.
func TestTimesLongest(t *testing.T) {
	// One that takes a tick less than there is, and may be late: it comes at least so often in its busy time as it may be late.
	wantTimes(t, "20 times 5000", frames(frame(5000, 5001, 20)), 5020)
	wantNoTimes(t, "11 times 9091", frames(frame(9091, 9092, 11)), fault(api.ErrNone, 0))
	wantNoTimes(t, "21 times 5000", frames(frame(5000, 5001, 21)), fault(api.ErrNone, 0))
	// What holds it up counts, too; the one behind it is busy for still longer.
	wantNoTimes(t, "41 times 2439, and 1", frames(frame(2439, 2440, 40), frame(2, 9999, 0)), fault(api.ErrNone, 1))
	wantNoTimes(t, "20 times 5000, and 1", frames(frame(5000, 5001, 19), frame(2, 9999, 0)), fault(api.ErrNone, 0))
	// Of two messages.
	wantTimes(t, "just 100000", frames(frame(122, 244, 11), frame(2940, 5884, 27)), 3072, 3089)
	wantTimes(t, "just 100000", frames(frame(2501, 5005, 14), frame(1020, 2042, 13)), 3534, 3534)
	wantTimes(t, "just 100000, and one ahead comes again just then", frames(frame(500, 1000, 0), frame(500, 1001, 100)), 999, 1100)
	wantNoTimes(t, "just 100001", frames(frame(2941, 5884, 13), frame(2778, 5557, 21)), fault(api.ErrNone, 1))
	wantNoTimes(t, "just 100001", frames(frame(1563, 3127, 12), frame(3845, 7694, 4)), fault(api.ErrNone, 1))
}

// TestTimesNever: where more is asked for than there is, or just all of it and a bit besides, there is no end.
func TestTimesNever(t *testing.T) {
	for _, c := range []struct {
		what string
		l    []api.Frame
		at   int
	}{
		{"one takes longer than T", frames(frame(6, 5, 0)), 0},
		{"one takes all the time, and may be late", frames(frame(5, 5, 1)), 0},
		{"one tick at a time", frames(frame(1, 1, 1)), 0},
		{"one takes all the time, and is held up", frames(frame(5, 5, 0), frame(2, 9, 0)), 0},
		{"one takes all the time, and isn't held up", frames(frame(5, 5, 0), frame(1, 9, 0)), 1},
		{"the second one", frames(frame(1, 2, 0), frame(2, 3, 0), frame(1, 9, 0)), 1},
		{"the last one", frames(frame(1, 2, 0), frame(1, 4, 0), frame(1, 5, 0), frame(1, 19, 0)), 3},
		{"as slowly as may be", slices.Repeat(frames(frame(1, 8, 1)), api.MaxTasks), 7},
	} {
		wantNoTimes(t, c.what, c.l, fault(api.ErrNone, c.at))
	}
	most := slices.Repeat(frames(frame(api.MaxTime, 1, 1)), api.MaxTasks)
	wantNoTimes(t, "as much as may be", most, fault(api.ErrNone, 0))
	wantTimes(t, "as often as may be", frames(frame(1, 1, 0)), 1)
}

// TestTimesAnotherWay: they are what the rules say word by word.
func TestTimesAnotherWay(t *testing.T) {
	m := newMaker(155)
	in, out, again, long := 0, 0, 0, 0
	for range 6000 {
		l := m.frames(m.within(1, api.MaxTasks), m.one(6, 20, 100, 1000), m.one(50, 80, 100))
		want := otherTimes(l)
		if want.f != (api.Fault{}) {
			out++
			wantNoTimes(t, "made", l, want.f)
			continue
		}
		in++
		if want.at > 0 {
			again++
		}
		if want.busiest > 1000 {
			long++
		}
		wantTimes(t, "made", l, want.times...)
	}
	if min(in, out) < 1000 || min(again, long) < 50 {
		t.Errorf("in time: %d, %d of them by a second message, %d long; not: %d", in, again, long, out)
	}
}

// TestTimesNearAll: messages that need nearly all of the bus, so that one comes several times while it is busy, and isn't the first of its kind that takes longest.
func TestTimesNearAll(t *testing.T) {
	m := newMaker(156)
	in, out, again, third := 0, 0, 0, 0
	for range 6000 {
		n, c := m.within(2, 4), m.within(2, 30)
		var l []api.Frame
		for range n {
			l = append(l, frame(m.one(c, c, m.within(1, c)), m.within(n*c*7/10, n*c*13/10), m.one(0, 0, 1)))
		}
		want := otherTimes(l)
		if want.f != (api.Fault{}) {
			out++
			wantNoTimes(t, "nearly all", l, want.f)
			continue
		}
		in++
		if want.at > 0 {
			again++
		}
		if want.at > 1 {
			third++
		}
		wantTimes(t, "nearly all", l, want.times...)
	}
	if min(in, out) < 1000 || again < 200 || third < 20 {
		t.Errorf("in time: %d, %d of them by a second message, %d by a third; not: %d", in, again, third, out)
	}
}

// TestTimesShort: all lists of up to three messages with few numbers.
func TestTimesShort(t *testing.T) {
	var kinds []api.Frame
	for c := 1; c <= 3; c++ {
		for period := 2; period <= 5; period++ {
			for _, j := range ints(0, 1, period) {
				kinds = append(kinds, api.Frame{C: c, T: period, D: 12, J: j})
			}
		}
	}
	in := 0
	look := func(l ...api.Frame) {
		want := otherTimes(l)
		if want.f != (api.Fault{}) {
			wantNoTimes(t, "short", l, want.f)
			return
		}
		in++
		wantTimes(t, "short", l, want.times...)
	}
	for _, a := range kinds {
		look(a)
		for _, b := range kinds {
			look(a, b)
			look(a, b, till(2, 30, 30))
			look(till(1, 6, 30), a, b)
		}
	}
	if in < 200 {
		t.Errorf("in time: %d", in)
	}
}

// TestTimesOnlyRead: messages and the room behind them stay as they are, and each answer is new.
func TestTimesOnlyRead(t *testing.T) {
	m := newMaker(157)
	for range 300 {
		room := m.frames(api.MaxTasks, 40, 50)
		kept := slices.Clone(room)
		l := room[:m.Intn(api.MaxTasks+1)]
		check := net.Check(l)
		times, f := net.Times(l)
		fill(times, -7)
		again, g := net.Times(l)
		if f != g || slices.Contains(again, -7) || check != net.Check(l) {
			t.Errorf("%v, and then %v %v", f, again, g)
		}
		if !slices.Equal(room, kept) {
			t.Fatalf("changed: %v", room)
		}
	}
}

// fill writes n into a list and into the room behind it.
func fill(l []int, n int) {
	l = l[:cap(l)]
	for i := range l {
		l[i] = n
	}
}
