package modes_test

import (
	"math"
	"slices"
	"testing"

	"punctual/api"
	"punctual/fixed"
	"punctual/modes"
	"punctual/sched"
)

// some are the windows of the document's tests: of six ticks 1, 2 and 5.
func some() []api.Window { return windows(1, 2, 5, 1) }

func TestFrame(t *testing.T) {
	wantBadFrame(t, "no length", 0, nil, fault(api.ErrRange, 0))
	wantBadFrame(t, "below 0", -1, nil, fault(api.ErrRange, 0))
	wantBadFrame(t, "far below 0", math.MinInt, some(), fault(api.ErrRange, 0))
	wantBadFrame(t, "too long", api.MaxTime+1, nil, fault(api.ErrRange, 0))
	wantBadFrame(t, "far too long", math.MaxInt, some(), fault(api.ErrRange, 0))
	wantBadFrame(t, "too long, with too many windows", api.MaxTime+1, apart(api.MaxWindows+1), fault(api.ErrRange, 0))
	wantBadFrame(t, "no length, and a wrong window", 0, windows(3, 1, -1, 0), fault(api.ErrRange, 0))
	wantBadFrame(t, "too many", 100, apart(api.MaxWindows+1), fault(api.ErrMany, 0))
	wantBadFrame(t, "too many, and wrong ones", 1, apart(api.MaxWindows+1), fault(api.ErrMany, 0))
	wantBadFrame(t, "too many, and nothing in them", 1, make([]api.Window, api.MaxWindows+1), fault(api.ErrMany, 0))
	for _, c := range []struct {
		what    string
		length  int
		windows []api.Window
	}{
		{"no window", 1, nil},
		{"no window", 1, windows()},
		{"the whole frame", 1, windows(0, 1)},
		{"the longest one", api.MaxTime, nil},
		{"the longest one, whole", api.MaxTime, windows(0, api.MaxTime)},
		{"the longest one, its last tick", api.MaxTime, windows(api.MaxTime-1, 1)},
		{"as many as may be", 100, apart(api.MaxWindows)},
		{"as many as may be, to the very end", 2*api.MaxWindows - 1, apart(api.MaxWindows)},
		{"some", 6, some()},
		{"one that ends with the frame", 6, windows(2, 4)},
		{"one that begins with the end of the one ahead", 6, windows(1, 2, 3, 3)},
	} {
		wantFrame(t, c.what, c.length, c.windows, api.Fault{})
	}
	for _, c := range []struct {
		what string
		bad  api.Window
		want api.Errno
	}{
		{"At -1", api.Window{At: -1, Len: 1}, api.ErrRange},
		{"At -1, and no Len", api.Window{At: -1}, api.ErrRange},
		{"far below 0, and far on", api.Window{At: math.MinInt, Len: math.MaxInt}, api.ErrRange},
		{"At the length", api.Window{At: 50, Len: 1}, api.ErrRange},
		{"At the length, and no Len", api.Window{At: 50}, api.ErrRange},
		{"behind the frame", api.Window{At: 51, Len: 1}, api.ErrRange},
		{"far behind the frame", api.Window{At: math.MaxInt, Len: math.MaxInt}, api.ErrRange},
		{"behind the frame, and back", api.Window{At: 60, Len: -20}, api.ErrRange},
		{"Len 0", api.Window{At: 45}, api.ErrRange},
		{"Len 0, ahead of the end of the one ahead", api.Window{At: 0}, api.ErrRange},
		{"Len -1", api.Window{At: 45, Len: -1}, api.ErrRange},
		{"a tick behind the frame", api.Window{At: 45, Len: 6}, api.ErrRange},
		{"the greatest Len", api.Window{At: 45, Len: math.MaxInt}, api.ErrRange},
		{"the least Len", api.Window{At: 45, Len: math.MinInt}, api.ErrRange},
	} {
		for i := range 3 {
			wantBadFrame(t, c.what, 50, changed(windows(3, 10, 15, 5, 20, 20), i, func(w *api.Window) { *w = c.bad }), fault(c.want, i))
		}
	}
	wantFrame(t, "just at the end of the one ahead", 50, windows(3, 10, 13, 1), api.Fault{})
	wantBadFrame(t, "a tick ahead of it", 50, windows(3, 10, 12, 1), fault(api.ErrOrder, 1))
	wantBadFrame(t, "at the same time", 50, windows(3, 10, 3, 10), fault(api.ErrOrder, 1))
	wantBadFrame(t, "ahead of the one ahead", 50, windows(3, 10, 0, 2), fault(api.ErrOrder, 1))
	wantBadFrame(t, "ahead of the end of the one ahead, behind the one ahead of that", 50, windows(3, 10, 20, 10, 15, 2), fault(api.ErrOrder, 2))
	wantBadFrame(t, "out of order and of range", 50, windows(3, 10, 5, 46), fault(api.ErrRange, 1))
	wantBadFrame(t, "out of order, then of range", 50, windows(3, 10, 5, 1, 50, 1), fault(api.ErrOrder, 1))
	wantBadFrame(t, "out of range, then of order", 50, windows(3, 10, 50, 1, 5, 1), fault(api.ErrRange, 1))
	wantBadFrame(t, "the last one", 50, append(apart(api.MaxWindows-1), api.Window{At: 36, Len: 1}), fault(api.ErrOrder, api.MaxWindows-1))
}

// TestFrameShort: all lists of up to two windows with small numbers, wrong ones, too.
func TestFrameShort(t *testing.T) {
	var all []api.Window
	for at := -1; at <= 5; at++ {
		for n := -1; n <= 5; n++ {
			all = append(all, api.Window{At: at, Len: n})
		}
	}
	for length := -1; length <= 4; length++ {
		for _, a := range all {
			wantFrame(t, "short", length, []api.Window{a}, otherFrame(length, []api.Window{a}))
			for _, b := range all {
				l := []api.Window{a, b}
				wantFrame(t, "short", length, l, otherFrame(length, l))
			}
		}
	}
}

func TestOpen(t *testing.T) {
	for frame := range 4 {
		for tick, want := range []bool{false, true, true, false, false, true} {
			wantOpen(t, "some", 6, some(), 6*frame+tick, want)
		}
	}
	for _, at := range []int{-1, -5, -6, -4, math.MinInt} {
		wantOpen(t, "below 0", 6, some(), at, false)
		wantOpen(t, "below 0, whole", 1, windows(0, 1), at, false)
	}
	for _, at := range []int{0, 1, api.MaxUntil, api.MaxUntil + 1, math.MaxInt} {
		wantOpen(t, "whole", 1, windows(0, 1), at, true)
		wantOpen(t, "whole", 7, windows(0, 7), at, true)
		wantOpen(t, "never", 7, nil, at, false)
	}
	wantOpen(t, "the greatest t", api.MaxTime, windows(math.MaxInt%api.MaxTime, 1), math.MaxInt, true)
	wantOpen(t, "a tick ahead of it", api.MaxTime, windows(math.MaxInt%api.MaxTime, 1), math.MaxInt-1, false)
	for _, at := range []int{0, api.MaxTime - 1, api.MaxTime, 2*api.MaxTime - 1} {
		wantOpen(t, "the first and the last tick", api.MaxTime, windows(0, 1, api.MaxTime-1, 1), at, true)
		wantOpen(t, "all but these", api.MaxTime, windows(1, api.MaxTime-2), at, false)
	}
}

func TestSupply(t *testing.T) {
	for _, c := range []struct {
		what        string
		length      int
		windows     []api.Window
		from, ticks int
		want        int
	}{
		{"of the document's tests", 6, some(), 2, 7, 4},
		{"no ticks", 6, some(), 1, 0, 0},
		{"no ticks, from the last time on", 6, some(), api.MaxUntil, 0, 0},
		{"ahead of the first window", 6, some(), 0, 1, 0},
		{"the first tick of a window", 6, some(), 0, 2, 1},
		{"a whole window", 6, some(), 0, 3, 2},
		{"just a window", 6, some(), 1, 2, 2},
		{"between two", 6, some(), 3, 2, 0},
		{"just a frame", 6, some(), 0, 6, 3},
		{"just a frame, from another time on", 6, some(), 4, 6, 3},
		{"a frame and a tick", 6, some(), 5, 7, 4},
		{"two frames less a tick", 6, some(), 2, 11, 5},
		{"in a later frame", 6, some(), 14, 7, 4},
		{"many frames", 6, some(), 0, 6000, 3000},
		{"the most ticks", 6, some(), 0, api.MaxUntil, 10000}, // 3333 frames, and ticks 0 and 1 of one more
		{"the most ticks from the last time on", 6, some(), api.MaxUntil, api.MaxUntil, 10000},
		{"no window", 6, nil, 3, 9, 0},
		{"the whole frame", 6, windows(0, 6), 3, 9, 9},
		{"the whole frame, in two windows", 6, windows(0, 2, 2, 4), 3, 9, 9},
		{"the most", 1, windows(0, 1), api.MaxUntil, api.MaxUntil, api.MaxUntil},
		{"a long frame", api.MaxTime, windows(9990, 10), 9995, 10000, 10},
		{"a long frame, over its end", api.MaxTime, windows(9990, 10), 9995, 10, 5},
	} {
		wantSupply(t, c.what, c.length, c.windows, c.from, c.ticks, c.want, api.Fault{})
	}
	for _, n := range []int{-1, api.MaxUntil + 1, math.MinInt, math.MaxInt} {
		wantSupply(t, "from", 6, some(), n, 3, 0, fault(api.ErrRange, 0))
		wantSupply(t, "ticks", 6, some(), 3, n, 0, fault(api.ErrRange, 0))
		wantSupply(t, "both", 6, some(), n, n, 0, fault(api.ErrRange, 0))
		wantSupply(t, "no window", 6, nil, 3, n, 0, fault(api.ErrRange, 0))
	}
}

func TestLeast(t *testing.T) {
	for ticks, want := range []int{0, 0, 0, 1, 1, 2, 3, 3, 3, 4, 4, 5, 6, 6} {
		wantLeast(t, "some", 6, some(), ticks, want, api.Fault{})
	}
	for _, c := range []struct {
		what        string
		length      int
		windows     []api.Window
		ticks, want int
	}{
		{"no window", 6, nil, 100, 0},
		{"no window, no ticks", 6, nil, 0, 0},
		{"the whole frame", 6, windows(0, 6), 100, 100},
		{"the whole frame, in windows", 6, windows(0, 1, 1, 2, 3, 3), 4, 4},
		{"one tick", 1, windows(0, 1), api.MaxUntil, api.MaxUntil},
		{"one window, less than it is away", 10, windows(3, 4), 6, 0},
		{"one window, a tick more", 10, windows(3, 4), 7, 1},
		{"one window, at the beginning", 10, windows(0, 4), 7, 1},
		{"one window, at the end", 10, windows(6, 4), 7, 1},
		{"just a frame", 10, windows(3, 4), 10, 4},
		{"many", 10, windows(3, 4), 10000, 4000},
		{"many, and some more", 10, windows(3, 4), 10006, 4000},
		{"the most", 10, windows(3, 4), api.MaxUntil, 8000},
		// From 3 on it is away for two ticks, from 6 on for three: but then it is there for long.
		{"the longest gap is the worst", 12, windows(0, 3, 5, 1, 9, 3), 3, 0},
		{"the longest gap isn't the worst", 12, windows(0, 3, 5, 1, 9, 3), 6, 1},
		{"the end of the last window", 12, windows(3, 9), 3, 0},
		{"the end of the first one", 12, windows(0, 1, 4, 8), 3, 0},
		{"two that touch: their end within isn't one", 12, windows(2, 2, 4, 2), 8, 0},
		{"a long frame", api.MaxTime, windows(0, 1), api.MaxTime - 1, 0},
		{"a long frame", api.MaxTime, windows(0, 1), api.MaxTime, 1},
	} {
		wantLeast(t, c.what, c.length, c.windows, c.ticks, c.want, api.Fault{})
	}
	for _, n := range []int{-1, api.MaxUntil + 1, math.MinInt, math.MaxInt} {
		wantLeast(t, "ticks", 6, some(), n, 0, fault(api.ErrRange, 0))
		wantLeast(t, "no window", 6, nil, n, 0, fault(api.ErrRange, 0))
	}
}

// eachFrame hands out all frames of up to so many ticks: each tick that is there is a window of its own, or goes on with the one ahead.
func eachFrame(most int, use func(length int, windows []api.Window)) {
	for length := 1; length <= most; length++ {
		var lay func(at int, l []api.Window)
		lay = func(at int, l []api.Window) {
			if at == length {
				use(length, l)
				return
			}
			lay(at+1, l)
			for n := 1; n <= length-at; n++ {
				lay(at+n, append(slices.Clip(l), api.Window{At: at, Len: n}))
			}
		}
		lay(0, nil)
	}
}

// TestSupplyShort: all frames of up to seven ticks.
func TestSupplyShort(t *testing.T) {
	frames := 0
	eachFrame(7, func(length int, l []api.Window) {
		frames++
		there := otherOpen(length, l, 6*length)
		for at, want := range there {
			wantOpen(t, "short", length, l, at, want)
		}
		for ticks := range 3*length + 1 {
			for from := range 2*length + 1 {
				wantSupply(t, "short", length, l, from, ticks, otherSupply(there[from:from+ticks]), api.Fault{})
			}
			wantLeast(t, "short", length, l, ticks, otherLeast(length, l, ticks), api.Fault{})
		}
	})
	if frames < 900 {
		t.Errorf("%d frames", frames)
	}
}

func TestSupplyAnotherWay(t *testing.T) {
	m := newMaker(135)
	for range 1500 {
		length, l := m.frame(m.one(5, 20, 80), m.one(1, 3, 20))
		there := otherOpen(length, l, 800)
		for range 10 {
			from, ticks := m.Intn(300), m.Intn(300)
			wantSupply(t, "made", length, l, from, ticks, otherSupply(there[from:from+ticks]), api.Fault{})
		}
		ticks := m.Intn(200)
		wantLeast(t, "made", length, l, ticks, otherLeast(length, l, ticks), api.Fault{})
	}
	length, l := api.MaxTime, windows(17, 400, 900, 1, 901, 2000, 5000, 4999)
	for _, ticks := range []int{1, 2000, 7000, 13000, api.MaxUntil} {
		there := otherOpen(length, l, 2*api.MaxUntil)
		least := ticks
		for from := range length {
			least = min(least, otherSupply(there[from:from+ticks]))
			if from%997 == 0 {
				wantSupply(t, "long", length, l, from, ticks, otherSupply(there[from:from+ticks]), api.Fault{})
			}
		}
		wantLeast(t, "long", length, l, ticks, least, api.Fault{})
	}
}

func TestWithin(t *testing.T) {
	half := windows(0, 1) // of two ticks
	for _, c := range []struct {
		what    string
		set     []api.Task
		i       int
		length  int
		windows []api.Window
		want    int
	}{
		{"of the document's tests", named(task(2, 9, 0)), 0, 6, some(), 5},
		{"the whole frame", named(task(2, 9, 0)), 0, 6, windows(0, 6), 2},
		{"one tick of two", named(task(2, 9, 0)), 0, 2, half, 4},
		{"w is just D", named(late(2, 9, 5, 0, 0)), 0, 6, some(), 5},
		{"with J", named(late(2, 9, 9, 1, 0)), 0, 6, some(), 6},
		{"w is just D - J", named(late(2, 9, 9, 4, 0)), 0, 6, some(), 9},
		{"a greater P goes ahead", named(task(1, 20, 1), task(2, 20, 2)), 0, 2, half, 6},
		{"an equal P goes ahead, too", named(task(1, 20, 2), task(2, 20, 2)), 0, 2, half, 6},
		{"of the other, too", named(task(1, 20, 2), task(2, 20, 2)), 1, 2, half, 6},
		{"a lesser P doesn't", named(task(1, 20, 3), task(2, 20, 2)), 0, 2, half, 2},
		{"the other comes twice", named(task(1, 20, 1), task(2, 5, 2)), 0, 2, half, 10}, // 5 in 10 ticks
		{"J of the other", named(task(1, 20, 1), late(2, 11, 11, 2, 2)), 0, 2, half, 6},
		{"J of the other: it comes once more", named(task(1, 20, 1), late(2, 11, 11, 6, 2)), 0, 2, half, 10}, // within 6 ticks twice
		{"both have J", named(late(1, 20, 20, 4, 1), late(2, 11, 11, 6, 2)), 0, 2, half, 14},
		{"a w in which more is there than is asked for", named(task(3, 20, 1)), 0, 12, windows(0, 12), 3},
		{"the worst beginning isn't the longest gap", named(task(2, 50, 1)), 0, 12, windows(0, 3, 5, 1, 9, 3), 7},
	} {
		wantWithin(t, c.what, c.set, c.i, c.length, c.windows, c.want, api.Fault{})
	}
}

func TestWithinFaults(t *testing.T) {
	for _, c := range []struct {
		what    string
		set     []api.Task
		i       int
		length  int
		windows []api.Window
		want    api.Fault
	}{
		{"no task", nil, 0, 6, some(), fault(api.ErrMany, 0)},
		{"too many", make([]api.Task, api.MaxTasks+1), 0, 6, some(), fault(api.ErrMany, 0)},
		{"a name", []api.Task{task(1, 9, 0)}, 0, 6, some(), fault(api.ErrName, 0)},
		{"a number", named(task(1, 9, 0), task(0, 9, 0)), 0, 6, some(), fault(api.ErrRange, 1)},
		{"D above T", named(task(1, 9, 0), late(1, 9, 10, 0, 0)), 0, 6, some(), fault(api.ErrOrder, 1)},
		{"D above T, no such task", named(task(1, 9, 0), late(1, 9, 10, 0, 0)), 2, 6, some(), fault(api.ErrOrder, 1)},
		{"no such task", named(task(1, 9, 0)), 1, 6, some(), fault(api.ErrRange, 0)},
		{"no such task", named(task(1, 9, 0)), -1, 6, some(), fault(api.ErrRange, 0)},
		{"no such task, and a wrong window", named(task(1, 9, 0)), 1, 6, windows(1, 2, 2, 1), fault(api.ErrRange, 0)},
		{"a name, and no length", []api.Task{task(1, 9, 0)}, 0, 0, nil, fault(api.ErrName, 0)},
		{"late even on a core that is always there", named(task(1, 9, 9), task(4, 9, 2), late(5, 9, 8, 0, 1)), 2, 6, windows(0, 6), fault(api.ErrNone, 2)},
		{"so, and a wrong window", named(task(1, 9, 9), task(4, 9, 2), late(5, 9, 8, 0, 1)), 2, 6, windows(1, 2, 2, 1), fault(api.ErrNone, 2)},
		{"so, and no length", named(task(1, 9, 9), task(4, 9, 2), late(5, 9, 8, 0, 1)), 2, 0, nil, fault(api.ErrNone, 2)},
		{"w would be D and 1", named(late(2, 9, 4, 0, 0)), 0, 6, some(), fault(api.ErrNone, 0)},
		{"w would be D - J and 1", named(late(2, 9, 9, 5, 0)), 0, 6, some(), fault(api.ErrNone, 0)},
		{"never there", named(task(1, 9, 9), task(1, 10000, 1)), 1, 6, nil, fault(api.ErrNone, 1)},
		{"too little", named(task(5, 10, 9), task(1, 10000, 1)), 1, 2, windows(1, 1), fault(api.ErrNone, 1)},
	} {
		wantWithin(t, c.what, c.set, c.i, c.length, c.windows, 0, c.want)
	}
	// Others may be late.
	wantWithin(t, "the others aren't asked", named(task(1, 9, 9), task(9, 9, 1)), 0, 6, some(), 3, api.Fault{})
}

// TestWithinAnotherWay: as the other way says; and on a core that is always there as chapter 9 says.
func TestWithinAnotherWay(t *testing.T) {
	m := newMaker(136)
	some, none, more := 0, 0, 0
	for range 6000 {
		set := m.tasks(m.within(1, 5), m.one(8, 20, 40), m.one(15, 30, 50))
		length, l := m.frame(m.one(4, 10, 20), m.one(1, 3, 20))
		for i := range set {
			r, f := fixed.Response(set, i, 0)
			wantWithin(t, "always there", set, i, 5, windows(0, 2, 2, 3), r, f)
			if f.Code != api.OK {
				wantWithin(t, "late anyway", set, i, length, l, 0, f)
				continue
			}
			want, f := otherWithin(set, i, length, l)
			wantWithin(t, "made", set, i, length, l, want, f)
			switch {
			case f.Code != api.OK:
				none++
			case want > r:
				more++
			default:
				some++
			}
		}
	}
	if min(some, none, more) < 1000 {
		t.Errorf("%d are as soon as ever, %d later, %d not at all", some, more, none)
	}
}

// TestWithinShort: all frames of up to four ticks, for all pairs of tasks with small numbers.
func TestWithinShort(t *testing.T) {
	var all []api.Task
	for period := 1; period <= 5; period += 2 {
		for c := 1; c <= min(2, period); c++ {
			for _, j := range ints(0, 2) {
				all = append(all, late(c, period, period, j, 1))
			}
		}
	}
	eachFrame(4, func(length int, l []api.Window) {
		for _, a := range all {
			for _, own := range []api.Task{late(1, 12, 12, 0, 0), late(2, 20, 14, 3, 1), late(3, 30, 30, 0, 2)} {
				set := named(a, own)
				want, f := otherWithin(set, 1, length, l)
				wantWithin(t, "short", set, 1, length, l, want, f)
			}
		}
	})
}

// TestWithinGreat: the greatest numbers, in little time.
func TestWithinGreat(t *testing.T) {
	set := named(task(1, api.MaxTime, 0))
	wantWithin(t, "one tick of a long frame", set, 0, api.MaxTime, windows(5000, 1), api.MaxTime, api.Fault{})
	wantWithin(t, "one tick too few", named(task(2, api.MaxTime, 0)), 0, api.MaxTime, windows(5000, 1), 0, fault(api.ErrNone, 0))
	wantWithin(t, "all of it", named(task(api.MaxTime, api.MaxTime, 0)), 0, 1, windows(0, 1), api.MaxTime, api.Fault{})
	var l []api.Task
	for i := range api.MaxTasks {
		l = append(l, late(500, api.MaxTime, api.MaxTime, 0, i))
	}
	wantWithin(t, "eight, in twenty windows", named(l...), 0, 2*api.MaxWindows, apart(api.MaxWindows), 2*8*500, api.Fault{})
}

func TestHosted(t *testing.T) {
	for _, c := range []struct {
		what      string
		jobs      []api.Job
		length    int
		windows   []api.Window
		ran, ends []int
	}{
		{"of the document's tests", jobs(by(0, 0, 3)), 6, some(), ints(-1, 0, 0, -1, -1, 0, -1, -1, -1), ints(6)},
		{"no ticks", jobs(by(0, 0, 3)), 6, some(), nil, none(1)},
		{"no jobs", nil, 6, some(), none(9), nil},
		{"never there", jobs(by(0, 0, 1), by(1, 2, 2)), 6, nil, none(9), none(2)},
		{"always there", jobs(by(0, 0, 3), by(1, 2, 2)), 6, windows(0, 6), runs(0, 2, 1, 2, 0, 1, -1, 4), ints(5, 4)},
		{"comes while the core isn't there", jobs(by(0, 3, 2)), 6, some(), ints(-1, -1, -1, -1, -1, 0, -1, 0, -1), ints(8)},
		{"comes as a window ends", jobs(by(0, 3, 1)), 6, some(), ints(-1, -1, -1, -1, -1, 0, -1), ints(6)},
		{"comes in the last tick of a window", jobs(by(0, 2, 1)), 6, some(), ints(-1, -1, 0, -1, -1, -1), ints(3)},
		{"one goes ahead that came while the core wasn't there", jobs(by(1, 0, 3), by(2, 4, 1)), 6, some(), ints(-1, 0, 0, -1, -1, 1, -1, 0, -1), ints(8, 6)},
		{"of the same P the sooner one, though neither ran", jobs(by(1, 4, 1), by(1, 3, 1)), 6, some(), ints(-1, -1, -1, -1, -1, 1, -1, 0), ints(8, 6)},
		{"of the same time the first one", jobs(by(1, 3, 1), by(1, 3, 1)), 6, some(), ints(-1, -1, -1, -1, -1, 0, -1, 1), ints(6, 8)},
		{"a window that touches", jobs(by(1, 0, 3)), 4, windows(1, 1, 2, 1), ints(-1, 0, 0, -1, -1, 0, -1), ints(6)},
		{"any P", jobs(by(math.MinInt, 0, 1), by(math.MaxInt, 0, 1), by(0, 0, 1)), 2, windows(1, 1), ints(-1, 1, -1, 2, -1, 0), ints(6, 2, 4)},
		{"due is never asked", jobs(api.Job{C: 2, Due: 9}, api.Job{C: 1, Due: 1}), 2, windows(0, 1), ints(0, -1, 0, -1, 1), ints(3, 5)},
		{"the last tick", jobs(by(1, 0, 2)), 3, windows(2, 1), ints(-1, -1, 0, -1, -1, 0), ints(6)},
		{"a tick ahead of it", jobs(by(1, 0, 2)), 3, windows(2, 1), ints(-1, -1, 0, -1, -1), none(1)},
		{"far behind", jobs(api.Job{At: lastAt, C: api.MaxTime, Due: lastDue}), 6, some(), none(9), none(1)},
	} {
		wantHosted(t, c.what, c.jobs, c.length, c.windows, c.ran, c.ends)
	}
}

func TestHostedFaults(t *testing.T) {
	bad := func(what string, l []api.Job, until int, want api.Fault) {
		t.Helper()
		wantNoHosted(t, what, l, 6, some(), until, want)
		wantNoHosted(t, what, l, 1, nil, until, want)
		if _, f := sched.Play(l, api.Fixed, true, until); f != want {
			t.Errorf("Play of chapter 8, %s: %v, want %v", what, f, want)
		}
	}
	good := func(what string, l []api.Job, until int) {
		t.Helper()
		if p, f := modes.Hosted(l, 6, some(), until); f != (api.Fault{}) || len(p.Runs) != until || len(p.Ends) != len(l) {
			t.Errorf("Hosted, %s: %v", what, f)
		}
	}
	good("as many as may be", many(api.MaxJobs), 100)
	bad("one more", many(api.MaxJobs+1), 100, fault(api.ErrMany, 0))
	bad("one more, and until", many(api.MaxJobs+1), -1, fault(api.ErrMany, 0))
	for _, until := range []int{0, 1, api.MaxUntil} {
		good("until", many(3), until)
	}
	for _, until := range []int{-1, api.MaxUntil + 1, math.MinInt, math.MaxInt} {
		bad("until", many(3), until, fault(api.ErrRange, 0))
		bad("until, of none", nil, until, fault(api.ErrRange, 0))
		bad("a job, and until", jobs(by(1, 0, 1), by(1, 0, 0)), until, fault(api.ErrRange, 1))
	}
	for i := range 3 {
		for _, change := range []func(j *api.Job){
			func(j *api.Job) { j.At = -1 }, func(j *api.Job) { j.At = lastAt + 1 },
			func(j *api.Job) { j.C = 0 }, func(j *api.Job) { j.C = api.MaxTime + 1 },
			func(j *api.Job) { j.Due = -1 }, func(j *api.Job) { j.Due = lastDue + 1 },
		} {
			bad("a number", changed(many(3), i, change), 9, fault(api.ErrRange, i))
		}
	}
}

// TestHostedAnotherWay: as the other way says; and on a core that is always there as chapter 8 says.
func TestHostedAnotherWay(t *testing.T) {
	m := newMaker(137)
	waits := 0
	for range 5000 {
		l := make([]api.Job, m.Intn(8))
		for i := range l {
			l[i] = api.Job{Task: m.Intn(5) - 2, At: m.Intn(20), C: m.within(1, 4), Due: m.Intn(30), P: m.within(-1, 3)}
		}
		until := m.within(0, 40)
		length, w := m.frame(m.one(3, 8, 20), m.one(0, 1, 3, 20))
		ran, ends := otherHosted(l, length, w, until)
		wantHosted(t, "made", l, length, w, ran, ends)
		for i, j := range l {
			if ends[i] > j.At+j.C && !modes.Open(length, w, j.At) {
				waits++
			}
		}
		p, _ := sched.Play(l, api.Fixed, true, until)
		wantHosted(t, "always there", l, 4, windows(0, 1, 1, 3), p.Runs, p.Ends)
	}
	if waits < 1500 {
		t.Errorf("%d came while the core wasn't there", waits)
	}
}

// TestHostedShort: all frames of up to four ticks, with all pairs of jobs with small numbers.
func TestHostedShort(t *testing.T) {
	var all []api.Job
	for at := range 4 {
		for c := 1; c <= 2; c++ {
			for p := range 2 {
				all = append(all, by(p, at, c))
			}
		}
	}
	eachFrame(4, func(length int, l []api.Window) {
		for _, a := range all {
			for _, b := range all {
				two := jobs(a, b)
				ran, ends := otherHosted(two, length, l, 9)
				wantHosted(t, "short", two, length, l, ran, ends)
			}
		}
	})
}

func TestHostedLong(t *testing.T) {
	l := make([]api.Job, api.MaxJobs)
	for i := range l {
		l[i] = by(i%3, 5*i, 2)
	}
	p, f := modes.Hosted(l, 5, windows(1, 1, 4, 1), api.MaxUntil)
	if f != (api.Fault{}) || count(p.Runs, -1) != api.MaxUntil*3/5 {
		t.Errorf("%v, %d ticks in which nobody ran", f, count(p.Runs, -1))
	}
	for i, end := range p.Ends {
		if end != 5*i+5 {
			t.Fatalf("%d is done at %d", i, end)
		}
	}
}

func TestWindowsOnlyRead(t *testing.T) {
	m := newMaker(138)
	for range 300 {
		set, l := m.tasks(5, 20, 40), many(12)
		length, w := m.frame(20, 6)
		w = append(w, windows(3, 7, 99, 0)...)
		keptSet, keptL, keptW := slices.Clone(set), slices.Clone(l), slices.Clone(w)
		room := w[:len(w)-2]
		modes.Frame(length, room)
		modes.Open(length, room, 3)
		modes.Supply(length, room, 3, 9)
		modes.Least(length, room, 9)
		modes.Within(set[:3], 1, length, room)
		modes.Hosted(l[:9], length, room, 40)
		if !slices.Equal(set, keptSet) || !slices.Equal(l, keptL) || !slices.Equal(w, keptW) {
			t.Fatalf("changed: %v %v %v", set, l, w)
		}
	}
	a, _ := modes.Hosted(many(3), 6, some(), 3)
	b, _ := modes.Hosted(many(3), 6, some(), 3)
	a.Runs[0], a.Runs[1], a.Runs[2] = 77, 77, 77
	if slices.Contains(a.Ends, 77) || slices.Contains(b.Runs, 77) || slices.Contains(b.Ends, 77) {
		t.Errorf("shared: %v %v", a, b)
	}
}
