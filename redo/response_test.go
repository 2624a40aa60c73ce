package redo_test

import (
	"math"
	"slices"
	"testing"

	"punctual/api"
	"punctual/fixed"
	"punctual/redo"
)

// far: at most one fault within all that is looked at.
const far = api.MaxUntil

func TestResponseOfTheDocument(t *testing.T) {
	wantResponse(t, "one fault", pair(), 1, 100, 0, 6)
	wantResponse(t, "with checkpoints", pair(), 1, 100, 1, 4)
	wantNoResponse(t, "too many", pair(), 1, 3, 0, fault(api.ErrNone, 1))
	wantNoResponse(t, "no gap", pair(), 1, 0, 0, fault(api.ErrRange, 0))
}

func TestResponseOfOneTask(t *testing.T) {
	for _, c := range []struct {
		what            string
		t               api.Task
		gap, step, want int // 0: none
	}{
		{"one tick, anew", task(1, 9, 1), far, 0, 2},
		{"one tick, no time to do it anew", task(1, 1, 1), far, 0, 0},
		{"all anew", task(3, 9, 1), far, 0, 6},
		{"a step of a tick", task(3, 9, 1), far, 1, 4},
		{"a step just below C", task(3, 9, 1), far, 2, 5},
		{"a step of C", task(3, 9, 1), far, 3, 6},
		{"a step just above C", task(3, 9, 1), far, 4, 6},
		{"the greatest step", task(3, 9, 1), far, api.MaxTime, 6},
		{"done just at D", due(3, 9, 6, 1), far, 0, 6},
		{"one less than that", due(3, 9, 5, 1), far, 0, 0},
		{"one less, but with a step", due(3, 9, 5, 1), far, 2, 5},
		{"J", late(3, 9, 1, 1), far, 0, 7},
		{"J, and done just at D", late(3, 9, 3, 1), far, 0, 9},
		{"J that is too much", late(3, 9, 4, 1), far, 0, 0},
		{"J that isn't too much with a step", late(3, 9, 4, 1), far, 2, 9},
		{"its own J makes no more faults", late(3, 20, 5, 1), 6, 0, 11},
		{"the next fault when it is over", task(3, 99, 1), 6, 0, 6},
		{"the next fault in its last tick", task(3, 99, 1), 5, 0, 9},
		{"three faults", task(3, 99, 1), 4, 0, 12},
		{"as much is undone as is done", task(3, 99, 1), 3, 0, 0},
		{"more is undone than is done", task(3, 99, 1), 2, 0, 0},
		{"in each tick a fault", task(3, 10000, 1), 1, 0, 0},
		{"in each tick a fault, a step of a tick", task(1, 10000, 1), 1, 1, 0},
		{"in each other tick a fault", task(3, 99, 1), 2, 1, 6},
		{"in each third tick a fault", task(3, 99, 1), 3, 1, 5},
		{"in each third tick a fault, a step of two", task(3, 99, 1), 3, 2, 9},
		{"as long as may be", task(5000, 10000, 1), far, 0, 10000},
		{"one too long", task(5001, 10000, 1), far, 0, 0},
		{"one too long, with a step", task(5001, 10000, 1), far, 4999, 10000},
		{"one too long, the step, too", task(5001, 10000, 1), far, 5000, 0},
		{"all that is left is a tick", task(9999, 10000, 1), far, 1, 10000},
		{"nothing is left", task(10000, 10000, 1), far, 1, 0},
		{"the next fault when all is over", task(5000, 10000, 1), 10000, 0, 10000},
		{"the next fault just ahead of that", task(5000, 10000, 1), 9999, 0, 0},
		{"slowly", task(5000, 10000, 1), 2, 1, 10000},
		{"slowly, and one more", task(5001, 10000, 1), 2, 1, 0},
	} {
		for _, p := range []int{0, 1, 1000} {
			set := named(c.t)
			set[0].P = p
			if c.want > 0 {
				wantResponse(t, c.what, set, 0, c.gap, c.step, c.want)
			} else {
				wantNoResponse(t, c.what, set, 0, c.gap, c.step, fault(api.ErrNone, 0))
			}
		}
	}
}

func TestResponseJustAtD(t *testing.T) {
	// The second one takes 12 ticks at worst: 4 of its own, twice 2 of the other, 4 that are lost.
	set := named(task(2, 6, 2), task(4, 40, 1))
	wantResponse(t, "much time", set, 1, far, 0, 12)
	for d := 4; d <= 40; d++ {
		set[1].D = d
		if d >= 12 {
			wantResponse(t, "D is enough", set, 1, far, 0, 12)
		} else {
			wantNoResponse(t, "D is too little", set, 1, far, 0, fault(api.ErrNone, 1))
		}
	}
	set[1].D = 15
	for j := 0; j <= 15; j++ {
		set[1].J = j
		if j <= 3 {
			wantResponse(t, "J of its own", set, 1, far, 0, 12+j)
		} else {
			wantNoResponse(t, "J of its own is too much", set, 1, far, 0, fault(api.ErrNone, 1))
		}
		wantResponse(t, "J of one below", set, 0, far, 0, 4)
	}
}

func TestResponseLoss(t *testing.T) {
	set := named(task(5, 100, 2), task(1, 100, 1))
	wantResponse(t, "its own loss", set, 0, far, 0, 10)
	wantResponse(t, "another's loss", set, 1, far, 0, 11)
	for step, lost := range []int{5, 1, 2, 3, 4, 5, 5, 5} {
		wantResponse(t, "its own, with a step", set, 0, far, step, 5+lost)
		wantResponse(t, "another's, with a step", set, 1, far, step, 6+lost)
	}
	// The one below counts for nothing, though its loss is the greatest one.
	set = named(task(3, 100, 2), task(8, 100, 1), task(2, 100, 1))
	wantResponse(t, "the loss of one below", set, 0, far, 0, 6)
	wantResponse(t, "its own is greater", set, 1, far, 0, 13+8)
	wantResponse(t, "the loss of one of the same P", set, 2, far, 0, 13+8)
	for step, lost := range []int{8, 1, 2, 3, 4, 5, 6, 7, 8, 8} {
		wantResponse(t, "the one above", set, 0, far, step, 3+min(3, lost))
		wantResponse(t, "its own", set, 1, far, step, 13+lost)
		wantResponse(t, "of the same P", set, 2, far, step, 13+lost)
	}
	// Only the greatest one of all counts, wherever it stands.
	for first := range 3 {
		cs := []int{2, 7, 4}
		set = named(task(cs[first], 100, 5), task(cs[(first+1)%3], 100, 5), task(cs[(first+2)%3], 100, 5))
		for i := range set {
			wantResponse(t, "the greatest of three", set, i, far, 0, 20)
			wantResponse(t, "the greatest of three, with a step", set, i, far, 5, 18)
		}
	}
}

func TestResponseOfTheSameP(t *testing.T) {
	set := named(task(2, 30, 5), task(3, 30, 5))
	both := func(what string, first, second int) {
		t.Helper()
		wantResponse(t, what, set, 0, far, 0, first)
		wantResponse(t, what, set, 1, far, 0, second)
	}
	both("the same", 8, 8)
	set[0].P = 6
	both("the first one above", 4, 8)
	set[0].P = 4
	both("the first one below", 8, 6)
	set[0].P, set[1].P = 0, 0
	both("both 0", 8, 8)
	set[0].P, set[1].P = 1000, 1000
	both("both 1000", 8, 8)
	set[0].P, set[1].P = 0, 1000
	both("far apart", 8, 6)
}

func TestResponseLateOthers(t *testing.T) {
	set := named(late(2, 10, 0, 2), task(3, 100, 1))
	for j, want := range []int{8, 8, 8, 10, 10, 10, 10, 10, 10, 10, 10, 12, 12} {
		set[0].J = j
		wantResponse(t, "J of one above", set, 1, far, 0, want)
	}
	set[0].J = 13
	wantResponse(t, "late by more than its period", set, 1, far, 0, 12)
	set[0].P = 1
	wantResponse(t, "of the same P", set, 1, far, 0, 12)
	set[0].P = 0
	wantResponse(t, "of one below", set, 1, far, 0, 6)
	much := named(late(1, 10000, 10000, 2), task(1, 10000, 1))
	wantResponse(t, "the greatest J", much, 1, far, 0, 4)
}

func TestResponseRange(t *testing.T) {
	for n := 1; n <= api.MaxTasks; n++ {
		set := several(n)
		for i := range n {
			for _, gap := range []int{2*n + 2, 100, api.MaxUntil - 1, api.MaxUntil} {
				wantResponse(t, "each", set, i, gap, 0, 2*i+4)
				wantResponse(t, "each", set, i, gap, 1, 2*i+3)
				wantResponse(t, "each", set, i, gap, 2, 2*i+4)
				wantResponse(t, "each", set, i, gap, api.MaxTime, 2*i+4)
				for _, step := range []int{-1, api.MaxTime + 1, math.MinInt, math.MaxInt} {
					wantNoResponse(t, "no such step", set, i, gap, step, fault(api.ErrRange, 0))
				}
			}
			for _, step := range []int{0, 1, api.MaxTime} {
				wantNoResponse(t, "the least gap", set, i, 1, step, fault(api.ErrNone, i))
				for _, gap := range []int{0, -1, api.MaxUntil + 1, math.MinInt, math.MaxInt} {
					wantNoResponse(t, "no such gap", set, i, gap, step, fault(api.ErrRange, 0))
				}
			}
			wantNoResponse(t, "neither", set, i, 0, -1, fault(api.ErrRange, 0))
		}
		for _, i := range []int{-1, n, n + 1, math.MinInt, math.MaxInt} {
			wantNoResponse(t, "no such task", set, i, 100, 0, fault(api.ErrRange, 0))
			wantNoResponse(t, "no such task, and no such gap", set, i, 0, 0, fault(api.ErrRange, 0))
		}
	}
}

// TestFaultsOfSets: what chapter 9's Response says goes ahead of all else.
func TestFaultsOfSets(t *testing.T) {
	tooLong := func(t *api.Task) { t.D = t.T + 1 }
	wantBad(t, "no tasks", nil, fault(api.ErrMany, 0))
	wantBad(t, "no tasks", []api.Task{}, fault(api.ErrMany, 0))
	wantBad(t, "one task too many", several(api.MaxTasks+1), fault(api.ErrMany, 0))
	wantBad(t, "far too many tasks", make([]api.Task, 5000), fault(api.ErrMany, 0))
	for i := range 3 {
		for what, c := range map[string]struct {
			code   api.Errno
			change func(t *api.Task)
		}{
			"no name":     {api.ErrName, func(t *api.Task) { t.Name = "" }},
			"C too small": {api.ErrRange, func(t *api.Task) { t.C = 0 }},
			"T too small": {api.ErrRange, func(t *api.Task) { t.T = 0 }},
			"T too great": {api.ErrRange, func(t *api.Task) { t.T = api.MaxTime + 1 }},
			"D too small": {api.ErrRange, func(t *api.Task) { t.D = math.MinInt }},
			"J too small": {api.ErrRange, func(t *api.Task) { t.J = -1 }},
			"J too great": {api.ErrRange, func(t *api.Task) { t.J = math.MaxInt }},
			"P too great": {api.ErrRange, func(t *api.Task) { t.P = 1001 }},
			"C above D":   {api.ErrOrder, func(t *api.Task) { t.C = t.D + 1 }},
		} {
			bad := changed(several(3), i, c.change)
			wantBad(t, what, bad, fault(c.code, i))
			wantBad(t, what+", and D above T elsewhere", changed(bad, (i+1)%3, tooLong), fault(c.code, i))
		}
		wantBad(t, "D above T", changed(several(3), i, tooLong), fault(api.ErrOrder, i))
		wantBad(t, "the first D above T", changed(changed(several(3), 2, tooLong), i, tooLong), fault(api.ErrOrder, i))
	}
	wantBad(t, "a name twice", changed(several(3), 2, func(t *api.Task) { t.Name = "b" }), fault(api.ErrTwice, 2))
}

// TestResponseOrder: that there is none without faults is told ahead of a gap or a step that may not be; that there is none with them, behind it.
func TestResponseOrder(t *testing.T) {
	full := named(task(1, 1, 2), task(1, 10000, 1), task(1, 10000, 1))
	short := named(task(3, 5, 2), task(1, 10000, 1))
	for _, gap := range []int{0, -1, api.MaxUntil + 1} {
		for _, i := range []int{1, 2} {
			wantNoResponse(t, "none without faults", full, i, gap, 0, fault(api.ErrNone, i))
			wantNoResponse(t, "none without faults", full, i, gap, -1, fault(api.ErrNone, i))
		}
		wantNoResponse(t, "none with faults", short, 0, gap, 0, fault(api.ErrRange, 0))
	}
	for _, step := range []int{-1, api.MaxTime + 1} {
		wantNoResponse(t, "none without faults", full, 1, 100, step, fault(api.ErrNone, 1))
		wantNoResponse(t, "none with faults", short, 0, 100, step, fault(api.ErrRange, 0))
	}
	brim := named(task(3, 3, 1))
	wantNoResponse(t, "just in time without faults", brim, 0, 100, 1, fault(api.ErrNone, 0))
	wantNoResponse(t, "just in time without faults", brim, 0, 0, 1, fault(api.ErrRange, 0))
	wantNoResponse(t, "just in time without faults", brim, 0, 100, -1, fault(api.ErrRange, 0))
	wantNoResponse(t, "none without faults", full, 2, 100, 0, fault(api.ErrNone, 2))
	wantNoResponse(t, "none with faults", short, 0, 100, 0, fault(api.ErrNone, 0))
	wantResponse(t, "some with faults, in a step", short, 0, 100, 2, 5)
	// Another one's being late is nothing to a task that goes ahead of it.
	wantResponse(t, "the others are late", named(task(1, 2, 2), task(2, 2, 1)), 0, 100, 0, 2)
}

func TestResponseAnotherWay(t *testing.T) {
	m := newMaker(171)
	some, no, longer, shorter := 0, 0, 0, 0
	for range 8000 {
		n := m.within(1, api.MaxTasks)
		set := m.set(n, m.one(10, 30, 80), m.one(15, 30, 50))
		if m.Intn(2) == 0 {
			set = m.order(set)
		}
		gap, step := m.one(1, 5, 10, 20, 40, m.within(1, 60)), m.one(0, 1, 2, m.Intn(8))
		for i := range set {
			want, f := otherResponse(set, i, gap, step)
			if f.Code != api.OK {
				no++
				wantNoResponse(t, "made", set, i, gap, step, f)
				continue
			}
			some++
			wantResponse(t, "made", set, i, gap, step, want)
			if once, _ := otherResponse(set, i, far, step); once < want {
				longer++
			}
			if all, f := otherResponse(set, i, gap, 0); f.Code != api.OK || all > want {
				shorter++
			}
		}
	}
	if some < 5000 || no < 5000 || longer < 500 || shorter < 1000 {
		t.Errorf("%d have a response, %d none; %d longer for a second fault, %d shorter for a step", some, no, longer, shorter)
	}
}

// TestResponseShort: all pairs of tasks with small numbers, with all small gaps and steps.
func TestResponseShort(t *testing.T) {
	var all []api.Task
	for _, period := range []int{2, 5, 9} {
		for c := 1; c <= min(3, period); c++ {
			for j := range 3 {
				all = append(all, late(c, period, j, 1))
			}
		}
	}
	for _, a := range all {
		for _, b := range all {
			for p := range 3 {
				set := named(a, b)
				set[1].P = p
				for gap := 1; gap <= 10; gap++ {
					for step := range 4 {
						for i := range set {
							want, f := otherResponse(set, i, gap, step)
							if got, g := redo.Response(set, i, gap, step); got != want || g != f {
								t.Fatalf("%d %v, want %d %v (%d %d %d %v)", got, g, want, f, i, gap, step, set)
							}
						}
					}
				}
			}
		}
	}
}

// TestResponseGreat: great numbers, of which w grows slowly.
func TestResponseGreat(t *testing.T) {
	m := newMaker(172)
	some, no := 0, 0
	for range 150 {
		n := m.within(2, api.MaxTasks)
		set := m.order(m.set(n, 10000, m.one(15, 30)))
		set[0] = late(1, m.one(3, 10, 100), 0, set[0].P)
		set[0].Name = "a"
		i, gap, step := m.Intn(n), m.one(10, 100, 5000), m.one(0, 1, 5, 100)
		want, f := otherResponse(set, i, gap, step)
		if f.Code == api.OK {
			some++
			wantResponse(t, "great", set, i, gap, step, want)
		} else {
			no++
			wantNoResponse(t, "great", set, i, gap, step, f)
		}
	}
	if min(some, no) < 15 {
		t.Errorf("%d have a response, %d none", some, no)
	}
}

// TestResponseSides: it is never sooner than without faults, nor with fewer ticks between them, nor with longer steps.
func TestResponseSides(t *testing.T) {
	m := newMaker(173)
	n := 0
	for range 3000 {
		set := m.set(m.within(1, 5), 60, 30)
		i, gap, step := m.Intn(len(set)), m.within(1, 60), m.within(1, 6)
		most, f := redo.Response(set, i, gap, step+1)
		if f.Code != api.OK {
			continue
		}
		n++
		unhurt, _ := fixed.Response(set, i, 0)
		sooner, f := redo.Response(set, i, gap, step)
		apart, g := redo.Response(set, i, gap+1, step+1)
		if f != (api.Fault{}) || g != (api.Fault{}) || unhurt >= sooner || sooner > most || apart > most {
			t.Errorf("%d; %d %v, %d %v, %d (%d %d %d %v)", unhurt, sooner, f, apart, g, most, i, gap, step, set)
		}
	}
	if n < 500 {
		t.Errorf("%d", n)
	}
}

func TestResponseOnlyReads(t *testing.T) {
	room := append(several(3), task(9, 9, 9), task(8, 8, 8))
	kept := slices.Clone(room)
	for range 3 {
		wantResponse(t, "again", room[:3], 2, 100, 1, 7)
		wantNoResponse(t, "again", room[:3], 2, 1, 1, fault(api.ErrNone, 2))
		if !slices.Equal(room, kept) {
			t.Fatalf("changed: %v", room)
		}
	}
}
