package ready_test

import (
	"math"
	"math/rand"
	"slices"
	"testing"

	"punctual/api"
	"punctual/ready"
)

// all lets jobs come and work till the time until, one a tick: who did, or Nobody.
func all(jobs []api.Job, order ready.Order, until int) []int {
	l := ready.New(jobs, order)
	var who []int
	for now := range until {
		l.Come(now)
		first := l.First()
		who = append(who, first)
		if first != ready.Nobody {
			l.Work(first)
		}
	}
	return who
}

func TestOrders(t *testing.T) {
	jobs := []api.Job{{At: 1, C: 2, Due: 9, P: 3}, {At: 0, C: 2, Due: 9, P: 1}, {At: 0, C: 1, Due: 7, P: 1}, {At: 1, C: 1, Due: 8, P: 3}}
	for _, c := range []struct {
		what  string
		order ready.Order
		want  []int
	}{
		{"Fixed", ready.By(api.Fixed), []int{1, 0, 0, 3, 1, 2, -1}},
		{"Earliest", ready.By(api.Earliest), []int{2, 3, 1, 1, 0, 0, -1}},
		{"as they come", ready.InTurn, []int{1, 1, 2, 0, 0, 3, -1}},
	} {
		if got := all(jobs, c.order, len(c.want)); !slices.Equal(got, c.want) {
			t.Errorf("%s: %v, want %v", c.what, got, c.want)
		}
	}
	far := []api.Job{{C: 1, P: math.MinInt}, {C: 1, P: math.MaxInt}, {C: 1, P: 0}}
	if got := all(far, ready.By(api.Fixed), 3); !slices.Equal(got, []int{1, 2, 0}) {
		t.Errorf("as far apart as may be: %v", got)
	}
}

func TestComeAndWork(t *testing.T) {
	l := ready.New([]api.Job{{At: 2, C: 2}, {At: 4, C: 1}, {At: 2, C: 1}}, ready.InTurn)
	for now, want := range []bool{false, false, true, false, true, false} {
		if got := l.Come(now); got != want {
			t.Errorf("some come at %d: %v", now, got)
		}
	}
	// One that doesn't go first may work, too.
	for i, c := range []struct {
		first, work int
		done        bool
	}{{0, 1, true}, {0, 0, false}, {0, 2, true}, {0, 0, true}} {
		if first := l.First(); first != c.first {
			t.Errorf("%d: %d goes first", i, first)
		}
		if done := l.Work(c.work); done != c.done {
			t.Errorf("%d: %d is done: %v", i, c.work, done)
		}
	}
	if l.First() != ready.Nobody || l.Come(100) {
		t.Errorf("%d goes first, though all are done", l.First())
	}
	late := ready.New([]api.Job{{At: 3, C: 1}, {At: 9, C: 1}}, ready.InTurn)
	if !late.Come(5) || late.First() != 0 || late.Come(8) || !late.Come(9) {
		t.Errorf("those whose times are over don't come")
	}
	none := ready.New(nil, ready.By(api.Fixed))
	if none.Come(0) || none.First() != ready.Nobody {
		t.Errorf("of no jobs one goes first")
	}
}

func TestFirsts(t *testing.T) {
	jobs := []api.Job{{C: 1, P: 1}, {C: 2, P: 4}, {At: 1, C: 1, P: 9}, {C: 1, P: 4}, {At: 2, C: 1, P: 4}}
	l := ready.New(jobs, ready.By(api.Fixed))
	want := func(most int, want ...int) {
		t.Helper()
		if got := l.Firsts(most); !slices.Equal(got, want) {
			t.Errorf("%d go first: %v, want %v", most, got, want)
		}
	}
	want(2) // nobody is there yet
	l.Come(0)
	want(0)
	want(1, 1)
	want(2, 1, 3)
	want(3, 1, 3, 0)
	want(9, 1, 3, 0)
	list := l.Firsts(2)
	for i := range list[:cap(list)] {
		list[:cap(list)][i] = -9
	}
	want(3, 1, 3, 0) // the list is a new one
	l.Work(3)
	l.Come(1)
	want(3, 2, 1, 0)
	l.Come(2)
	want(3, 2, 1, 4)
	for range 2 {
		l.Work(1)
	}
	want(4, 2, 4, 0)
	for _, job := range l.Firsts(3) {
		l.Work(job)
	}
	want(1)
	// Whom First tells is the first one of them.
	r := rand.New(rand.NewSource(2))
	for range 200 {
		var made []api.Job
		for range r.Intn(8) {
			made = append(made, api.Job{At: r.Intn(4), C: 1 + r.Intn(3), P: r.Intn(3), Due: r.Intn(3)})
		}
		l = ready.New(made, ready.By(api.Earliest))
		for now := range 20 {
			l.Come(now)
			if first := l.First(); first == ready.Nobody {
				want(3)
			} else {
				want(1, first)
				l.Work(first)
			}
		}
	}
}

func TestRedo(t *testing.T) {
	jobs := []api.Job{{C: 3, P: 1}, {At: 2, C: 2, P: 2}}
	l := ready.New(jobs, ready.By(api.Fixed))
	l.Come(0)
	work := func(job int, done bool) {
		t.Helper()
		if first := l.First(); first != job {
			t.Errorf("%d goes first, want %d", first, job)
		}
		if got := l.Work(job); got != done {
			t.Errorf("%d is done: %v", job, got)
		}
	}
	work(0, false)
	work(0, false)
	l.Redo(0, 2)
	work(0, false)
	work(0, false)
	l.Redo(0, 1)
	l.Redo(0, 0)
	work(0, false)
	l.Come(2)
	// One of which nothing was undone has no more to run, and one that waits keeps what it has.
	work(1, false)
	l.Redo(1, 1)
	work(1, false)
	work(1, true)
	work(0, true)
	if first := l.First(); first != ready.Nobody {
		t.Errorf("%d goes first, though all are done", first)
	}
	if jobs[0].C != 3 || jobs[1].C != 2 {
		t.Errorf("changed: %v", jobs)
	}
}

func TestGiveUp(t *testing.T) {
	jobs := []api.Job{{C: 1, P: 1}, {C: 2, P: 4}, {C: 1, P: 3}, {At: 2, C: 1, P: 9}, {At: 3, C: 1, P: 5}, {At: 3, C: 1, P: 0}}
	for _, c := range []struct {
		what string
		gone []int
		want []int // from time 1 on
	}{
		{"nobody", nil, []int{1, 3, 4, 2, 0, 5, -1}},
		{"one that is there", []int{2}, []int{1, 3, 4, 0, 5, -1}},
		{"one that has begun, and goes first", []int{1}, []int{2, 3, 4, 0, 5, -1}},
		{"the last one that is there", []int{0}, []int{1, 3, 4, 2, 5, -1}},
		{"one that comes next", []int{3}, []int{1, 2, 4, 0, 5, -1}},
		{"one that comes then", []int{4}, []int{1, 3, 2, 0, 5, -1}},
		{"some of both", []int{0, 1, 4}, []int{2, 3, 5, -1}},
		{"all that are there", []int{0, 1, 2}, []int{-1, 3, 4, 5, -1}},
		{"all that come", []int{3, 4, 5}, []int{1, 2, 0, -1}},
		{"all", []int{0, 1, 2, 3, 4, 5}, []int{-1, -1, -1}},
	} {
		l := ready.New(jobs, ready.By(api.Fixed))
		l.Come(0)
		l.Work(1)
		l.GiveUp(func(job int) bool { return slices.Contains(c.gone, job) })
		var who []int
		for now := 1; now <= len(c.want); now++ {
			l.Come(now)
			who = append(who, l.First())
			if l.First() != ready.Nobody {
				l.Work(l.First())
			}
		}
		if !slices.Equal(who, c.want) {
			t.Errorf("%s: %v, want %v", c.what, who, c.want)
		}
	}
}

// TestNothingIsChanged: a line only reads the jobs, and those in the room behind them aren't its own.
func TestNothingIsChanged(t *testing.T) {
	r := rand.New(rand.NewSource(1))
	for range 200 {
		room := make([]api.Job, 9)
		for i := range room {
			room[i] = api.Job{Task: i, At: r.Intn(9), C: 1 + r.Intn(3), Due: r.Intn(5), P: r.Intn(3)}
		}
		kept := slices.Clone(room)
		for _, order := range []ready.Order{ready.By(api.Fixed), ready.By(api.Earliest), ready.InTurn} {
			who := all(room[:7], order, 40)
			for i, j := range room[:7] {
				n := 0
				for _, w := range who {
					if w == i {
						n++
					}
				}
				if n != j.C {
					t.Errorf("%d has worked %d ticks (%v)", i, n, room)
				}
			}
			if !slices.Equal(room, kept) {
				t.Fatalf("changed: %v", room)
			}
		}
	}
}
