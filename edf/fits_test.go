package edf_test

import (
	"testing"

	"punctual/api"
	"punctual/edf"
)

func TestFits(t *testing.T) {
	for _, c := range []struct {
		what string
		set  []api.Task
		want api.Fault
	}{
		{"one", named(task(1, 1)), api.Fault{}},
		{"one that takes all it has", named(due(3, 10, 3)), api.Fault{}},
		{"one with D above T", named(due(3, 3, 9)), api.Fault{}},
		{"two that take just what they have", named(due(2, 9, 2), due(3, 9, 5)), api.Fault{}},
		{"a tick more", named(due(2, 9, 2), due(4, 9, 5)), fault(api.ErrNone, 5)},
		{"two that are due at one time", named(due(2, 4, 3), due(2, 6, 3)), fault(api.ErrNone, 3)},
		{"just what there is at a second time", named(due(2, 5, 2), due(3, 20, 7)), api.Fault{}},
		{"too much at a second time", named(due(2, 5, 2), due(4, 20, 7)), fault(api.ErrNone, 7)},
		{"just what there is at a third time", named(due(2, 4, 2), due(4, 20, 10)), api.Fault{}},
		{"too much at a third time", named(due(2, 4, 2), due(5, 20, 10)), fault(api.ErrNone, 10)},
		{"Use 1, D at T", named(task(1, 2), task(2, 6), task(2, 12)), api.Fault{}},
		{"Use 1, D above T", named(task(1, 2), due(2, 6, 7), due(2, 12, 30)), api.Fault{}},
		{"Use 1, one D below T", named(task(1, 2), task(2, 6), due(2, 12, 7)), api.Fault{}},
		{"Use 1, one D too far below T", named(task(1, 2), task(2, 6), due(2, 12, 6)), fault(api.ErrNone, 6)},
		{"too much at 3, and at 4 and 5", named(due(2, 10, 3), due(2, 10, 3), due(2, 12, 4), due(2, 12, 5)), fault(api.ErrNone, 3)},
		{"the last task is the one that has too little time", named(due(4, 10, 8), due(2, 10, 3), due(2, 12, 3)), fault(api.ErrNone, 3)},
		{"enough at 4, too much at 6, enough at 20", named(due(4, 40, 4), due(3, 40, 6), due(3, 40, 20)), fault(api.ErrNone, 6)},
		{"J just what is left", named(late(3, 10, 10, 7)), api.Fault{}},
		{"J one more", named(late(3, 10, 10, 8)), fault(api.ErrNone, 2)},
		{"J one below D", named(late(1, 10, 5, 4)), api.Fault{}},
		{"J just D", named(late(1, 10, 5, 5)), fault(api.ErrNone, 0)},
		{"J above D", named(late(1, 10, 5, 6)), fault(api.ErrNone, 0)},
		{"J far above D", named(late(1, 10, 5, 9999)), fault(api.ErrNone, 0)},
		{"J above D of the last one", named(task(1, 10), late(1, 10, 5, 6)), fault(api.ErrNone, 0)},
		{"J above T, D too", named(late(1, 3, 10, 7)), api.Fault{}},
		{"J above T, too much at a second time", named(late(3, 4, 10, 7), due(3, 50, 6)), fault(api.ErrNone, 7)},
	} {
		wantFits(t, c.what, c.set, c.want)
	}
}

// TestFitsBesideBusy: Demand of Busy is never more than Busy; one tick ahead of it it may be.
func TestFitsBesideBusy(t *testing.T) {
	set := named(due(2, 4, 3), due(2, 6, 3))
	wantBusy(t, "beside", set, 4, api.Fault{})
	wantFits(t, "beside", set, fault(api.ErrNone, 3))
	m := newMaker(104)
	just, beside := 0, 0
	for range 8000 {
		set := m.jitter(m.set(m.within(1, 4), m.one(4, 10, 30), m.one(60, 90)))
		busy, f := edf.Busy(set)
		if f.Code != api.OK {
			continue
		}
		n, _ := edf.Demand(set, busy)
		if n > busy {
			t.Errorf("Demand of Busy, %d, is %d (%v)", busy, n, set)
		}
		if n == busy {
			just++
		}
		if f := edf.Fits(set); f == fault(api.ErrNone, busy-1) && busy > 1 {
			beside++
		}
	}
	if just < 500 || beside < 30 {
		t.Errorf("%d times just what there is at Busy, %d times too much one tick ahead of it", just, beside)
	}
}

func TestFitsAnotherWay(t *testing.T) {
	m := newMaker(105)
	seen := map[api.Errno]int{}
	later, nought := 0, 0
	for range 20000 {
		set := m.jitter(m.set(m.within(1, api.MaxTasks), m.one(5, 20, 60), m.one(50, 70, 90)))
		want := otherFits(set)
		wantFits(t, "another way", set, want)
		seen[want.Code]++
		busy, f := edf.Busy(set)
		switch {
		case f.Code != api.OK || want.Code == api.OK:
		case want.At == 0:
			nought++
		case want.At > set[0].T && want.At < busy:
			later++
		}
	}
	if seen[api.OK] < 500 || seen[api.ErrNone] < 500 || seen[api.ErrRange] < 10 || later < 100 || nought < 100 {
		t.Errorf("seen: %v; %d late, %d at 0", seen, later, nought)
	}
}

// eachTask calls with each task of small numbers, up to mostJ late.
func eachTask(most, mostJ int, call func(t api.Task)) {
	for period := 1; period <= most; period++ {
		for d := 1; d <= most+1; d++ {
			for c := 1; c <= min(d, 3); c++ {
				for j := range mostJ + 1 {
					call(late(c, period, d, j))
				}
			}
		}
	}
}

func TestFitsShort(t *testing.T) {
	n, fit := 0, 0
	eachTask(3, 2, func(a api.Task) {
		eachTask(3, 2, func(b api.Task) {
			set := named(a, b)
			n++
			busy, f := otherBusy(set)
			if f.Code == api.ErrRange {
				return // TestBusyAnotherWay has such ones; they take long
			}
			wantBusy(t, "short", set, busy, f)
			want := otherFits(set)
			wantFits(t, "short", set, want)
			for ticks := range 9 {
				wantDemand(t, "short", set, ticks, otherDemand(set, ticks), api.Fault{})
			}
			if want.Code == api.OK {
				fit++
			}
		})
	})
	if n < 5000 || fit < 100 {
		t.Errorf("%d sets, %d of them fit", n, fit)
	}
}

// TestFitsGreat: with nearly as many times at which the demand grows as there can be.
func TestFitsGreat(t *testing.T) {
	wantFits(t, "just MaxHyper, J at D", named(late(8000, 8080, 10000, 10000)), fault(api.ErrNone, 0))
	set := named(task(1, 2), task(1, 4), task(1, 8), task(1, 16), task(1, 32), task(1, 64), task(1, 128), task(1, 128))
	wantFits(t, "eight, Use 1", set, api.Fault{})
	wantBusy(t, "eight, Use 1", set, 128, api.Fault{})
	many := named(task(1, 2), task(123, 499), task(1, 4*499), task(124, 997*2), task(249, 4*997))
	wantFits(t, "many times", many, otherFits(many))
	wantFits(t, "as long as may be", halves(491, 1013), api.Fault{})
	wantFits(t, "too long", halves(499, 1009), fault(api.ErrRange, 0))
}

// TestFitsFarAway: the first time at which there is too much lies far away.
func TestFitsFarAway(t *testing.T) {
	for _, c := range []struct {
		set  []api.Task
		i, d int // with D of task i at d there is too much, with one more there isn't
		at   int
	}{
		{halves(491, 1013), 0, 488, 786088},
		{halves(101, 4903), 2, 4900, 828604},
		{halves(499, 997), 2, 994, 992012},
	} {
		more := changed(c.set, c.i, func(t *api.Task) { t.D = c.d + 1 })
		wantFits(t, "far away", more, api.Fault{})
		less := changed(c.set, c.i, func(t *api.Task) { t.D = c.d })
		wantFits(t, "far away", less, fault(api.ErrNone, c.at))
		wantFits(t, "far away, another way", less, otherFits(less))
	}
}
