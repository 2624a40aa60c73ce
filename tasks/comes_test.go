package tasks_test

import (
	"math"
	"slices"
	"testing"

	"punctual/api"
	"punctual/tasks"
)

// two tasks: a comes every 4 ticks, b every 6.
func two() []api.Task {
	return []api.Task{{Name: "a", C: 1, T: 4, D: 4, P: 3}, {Name: "b", C: 2, T: 6, D: 6, J: 1, O: 2, P: 2}}
}

func TestLegal(t *testing.T) {
	a := func(at int) api.Come { return api.Come{Task: 0, At: at} }
	b := func(at int) api.Come { return api.Come{Task: 1, At: at} }
	const end = api.MaxUntil
	for _, c := range []struct {
		what  string
		comes []api.Come
		want  api.Fault
	}{
		{"none", nil, api.Fault{}},
		{"none", []api.Come{}, api.Fault{}},
		{"just T apart", []api.Come{a(0), a(4), a(8)}, api.Fault{}},
		{"further apart", []api.Come{a(3), a(8), a(500)}, api.Fault{}},
		{"one less than T apart", []api.Come{a(0), a(3)}, fault(api.ErrOrder, 1)},
		{"one less than T apart, later", []api.Come{a(0), a(5), a(8)}, fault(api.ErrOrder, 2)},
		{"one less than T apart, others between", []api.Come{a(1), b(2), a(4)}, fault(api.ErrOrder, 2)},
		{"just T apart, others between", []api.Come{a(1), b(2), a(5), b(8), a(9)}, api.Fault{}},
		{"the other one's T", []api.Come{b(0), a(3), b(5)}, fault(api.ErrOrder, 2)},
		{"each its own T", []api.Come{b(0), a(0), a(4), b(6)}, api.Fault{}},
		{"T behind the last one, not the first", []api.Come{a(0), a(4), a(7)}, fault(api.ErrOrder, 2)},
		{"ahead of O", []api.Come{b(0)}, api.Fault{}},
		{"at one time", []api.Come{a(7), b(7)}, api.Fault{}},
		{"at one time, the greater number first", []api.Come{b(7), a(7)}, api.Fault{}},
		{"at one time, the same task", []api.Come{a(7), a(7)}, fault(api.ErrOrder, 1)},
		{"out of order", []api.Come{a(7), b(6)}, fault(api.ErrOrder, 1)},
		{"out of order, far", []api.Come{a(7), b(0)}, fault(api.ErrOrder, 1)},
		{"out of order, the same task", []api.Come{a(7), a(3)}, fault(api.ErrOrder, 1)},
		{"out of order, far behind its last one", []api.Come{a(0), b(100), a(99)}, fault(api.ErrOrder, 2)},
		{"both ends", []api.Come{a(0), a(end)}, api.Fault{}},
		{"both ends, both tasks", []api.Come{a(0), b(0), a(end), b(end)}, api.Fault{}},
		{"just T ahead of the end", []api.Come{a(end - 4), a(end)}, api.Fault{}},
		{"one beyond the end", []api.Come{a(end + 1)}, fault(api.ErrRange, 0)},
		{"one below the beginning", []api.Come{a(-1)}, fault(api.ErrRange, 0)},
		{"far below", []api.Come{a(0), b(math.MinInt)}, fault(api.ErrRange, 1)},
		{"far above", []api.Come{a(0), b(math.MaxInt)}, fault(api.ErrRange, 1)},
		{"no such task", []api.Come{{Task: 2}}, fault(api.ErrName, 0)},
		{"no such task", []api.Come{a(0), {Task: -1, At: 9}}, fault(api.ErrName, 1)},
		{"no such task", []api.Come{a(0), {Task: math.MinInt, At: 9}}, fault(api.ErrName, 1)},
		{"no such task", []api.Come{a(0), {Task: math.MaxInt, At: 9}}, fault(api.ErrName, 1)},
		{"no such task, and out of range", []api.Come{a(9), {Task: 2, At: -1}}, fault(api.ErrName, 1)},
		{"out of range ahead of order", []api.Come{a(9), b(-1)}, fault(api.ErrRange, 1)},
		{"the first one wrong", []api.Come{a(0), a(1), b(-1), {Task: 2}}, fault(api.ErrOrder, 1)},
		{"the first one wrong", []api.Come{a(0), b(-1), a(1), {Task: 2}}, fault(api.ErrRange, 1)},
		{"the first one wrong", []api.Come{a(0), {Task: 2}, b(-1), a(1)}, fault(api.ErrName, 1)},
	} {
		wantLegal(t, c.what, two(), c.comes, c.want)
	}
}

func TestLegalHowMany(t *testing.T) {
	set := []api.Task{plain("a", 1, 5, 1)}
	comes := func(n int) []api.Come {
		var l []api.Come
		for i := range n {
			l = append(l, api.Come{At: 5 * i})
		}
		return l
	}
	wantLegal(t, "as many as may be", set, comes(api.MaxJobs), api.Fault{})
	wantLegal(t, "one too many", set, comes(api.MaxJobs+1), fault(api.ErrMany, 0))
	wantLegal(t, "one too many, and the first one wrong", set, append([]api.Come{{Task: -1}}, comes(api.MaxJobs)...), fault(api.ErrMany, 0))
	last := comes(api.MaxJobs)
	last[api.MaxJobs-1].At--
	wantLegal(t, "the last one wrong", set, last, fault(api.ErrOrder, api.MaxJobs-1))
}

func TestLegalGreatPeriods(t *testing.T) {
	set := []api.Task{plain("a", 1, api.MaxTime, 1), plain("b", 1, 1, 1)}
	wantLegal(t, "three times", set, times(0, 10000, 20000), api.Fault{})
	wantLegal(t, "one too soon", set, times(1, 10000), fault(api.ErrOrder, 1))
	wantLegal(t, "one too soon", set, times(0, 10000, 19999), fault(api.ErrOrder, 2))
	wantLegal(t, "each tick", set, []api.Come{{Task: 1, At: 0}, {Task: 1, At: 1}, {Task: 1, At: 2}}, api.Fault{})
	wantLegal(t, "twice in a tick", set, []api.Come{{Task: 1, At: 0}, {Task: 1, At: 1}, {Task: 1, At: 1}}, fault(api.ErrOrder, 2))
}

func TestLegalAnotherWay(t *testing.T) {
	m := newMaker(5)
	seen := map[api.Errno]int{}
	for range 20000 {
		set := m.set(4)
		comes := m.comes(set, m.Intn(12))
		want := otherLegal(set, comes)
		seen[want.Code]++
		wantLegal(t, "made", set, comes, want)
	}
	for _, code := range []api.Errno{api.OK, api.ErrName, api.ErrRange, api.ErrOrder} {
		if seen[code] < 300 {
			t.Errorf("%v was seen %d times", code, seen[code])
		}
	}
}

// TestLegalShort: all lists of up to four comes, of two tasks, within a few ticks.
func TestLegalShort(t *testing.T) {
	set := []api.Task{plain("a", 1, 1, 1), plain("b", 1, 3, 1)}
	var all func(l []api.Come)
	all = func(l []api.Come) {
		wantLegal(t, "short", set, l, otherLegal(set, l))
		if len(l) == 4 {
			return
		}
		for task := range 2 {
			for at := range 6 {
				all(append(slices.Clip(l), api.Come{Task: task, At: at}))
			}
		}
	}
	all(nil)
}

func TestComes(t *testing.T) {
	set := two()
	wantComes(t, "ordinary", set, 9, []api.Come{{}, {Task: 1, At: 2}, {At: 4}, {At: 8}, {Task: 1, At: 8}}, api.Fault{})
	wantComes(t, "one less", set, 8, []api.Come{{}, {Task: 1, At: 2}, {At: 4}}, api.Fault{})
	wantComes(t, "no tick", set, 0, nil, api.Fault{})
	wantComes(t, "one tick", set, 1, []api.Come{{}}, api.Fault{})
	wantComes(t, "ahead of O", set, 2, []api.Come{{}}, api.Fault{})
	wantComes(t, "just behind O", set, 3, []api.Come{{}, {Task: 1, At: 2}}, api.Fault{})
	for _, until := range []int{-1, api.MaxUntil + 1, math.MinInt, math.MaxInt} {
		wantComes(t, "until beyond", set, until, nil, fault(api.ErrRange, 0))
	}
}

func TestComesAtOneTime(t *testing.T) {
	var set []api.Task
	var want []api.Come
	for i := range api.MaxTasks {
		// The last one comes oftenest, and the priorities go the other way round than the numbers.
		set = append(set, api.Task{Name: string(rune('z' - i)), C: 1, T: 8 - i, D: 1, P: i})
		want = append(want, api.Come{Task: i})
	}
	wantComes(t, "all at 0", set, 1, want, api.Fault{})
	l, _ := otherComes(set, 1000)
	wantComes(t, "all", set, 1000, l, api.Fault{})
	for i := range set {
		set[i].O = 5
	}
	for i := range want {
		want[i].At = 5
	}
	wantComes(t, "all at 5", set, 5, nil, api.Fault{})
	wantComes(t, "all at 5", set, 6, want, api.Fault{})
}

func TestComesAtTheEnds(t *testing.T) {
	slow := []api.Task{{Name: "a", C: 1, T: api.MaxTime, D: 1, O: api.MaxTime}}
	wantComes(t, "ahead of the greatest O", slow, api.MaxTime, nil, api.Fault{})
	wantComes(t, "behind the greatest O", slow, api.MaxTime+1, times(10000), api.Fault{})
	wantComes(t, "ahead of the greatest until", slow, api.MaxUntil, times(10000), api.Fault{})
	slow[0].O = 0
	wantComes(t, "twice", slow, api.MaxUntil, times(0, 10000), api.Fault{})
	slow[0].O = 9999
	wantComes(t, "twice", slow, api.MaxUntil, times(9999, 19999), api.Fault{})
}

func TestComesHowMany(t *testing.T) {
	every := func(periods ...int) []api.Task {
		var set []api.Task
		for i, n := range periods {
			set = append(set, plain(string(rune('a'+i)), 1, n, 1))
		}
		return set
	}
	for _, c := range []struct {
		set   []api.Task
		until int
		n     int // -1: too many
	}{
		{every(1), 4000, 4000},
		{every(1), 4001, -1},
		{every(1), api.MaxUntil, -1},
		{every(5), api.MaxUntil, 4000},
		{every(5, 10000), api.MaxUntil, -1},
		{every(4), 15997, 4000},
		{every(4), 16000, 4000},
		{every(4), 16001, -1},
		{every(1, 1, 1, 1, 1, 1, 1, 1), 500, 4000},
		{every(1, 1, 1, 1, 1, 1, 1, 1), 501, -1},
		{every(1, 1, 1, 1, 1, 1, 1, 1), api.MaxUntil, -1},
		{every(1, 1, 1, 1, 1, 1, 1), 571, 3997},
		{every(1, 1, 1, 1, 1, 1, 1), 572, -1},
		{every(10, 10), api.MaxUntil, 4000},
		{every(9, 10), api.MaxUntil, -1},
	} {
		want, f := otherComes(c.set, c.until)
		if c.n < 0 && f != fault(api.ErrMany, 0) || c.n >= 0 && len(want) != c.n {
			t.Errorf("%d ticks: %d are wanted, or %v", c.until, len(want), f)
		}
		wantComes(t, "many", c.set, c.until, want, f)
	}
	late := every(1)
	late[0].O = api.MaxTime
	wantComes(t, "late", late, 10002, times(10000, 10001), api.Fault{})
	if l, f := tasks.Comes(late, 14000); len(l) != 4000 || f != (api.Fault{}) {
		t.Errorf("%d %v", len(l), f)
	}
	wantComes(t, "late", late, 14001, nil, fault(api.ErrMany, 0))
	wantComes(t, "until beyond, and too many", every(1), api.MaxUntil+1, nil, fault(api.ErrRange, 0))
}

func TestComesAnotherWay(t *testing.T) {
	m := newMaker(6)
	seen := map[api.Errno]int{}
	for range 3000 {
		set := m.set(m.one(2, 10, 100, 10000))
		until := m.one(0, 1, m.Intn(50), m.Intn(3000), m.Intn(20001), 20000, -1, 20001)
		want, f := otherComes(set, until)
		seen[f.Code]++
		wantComes(t, "made", set, until, want, f)
		// Tasks may come as soon as they may.
		if f.Code == api.OK {
			wantLegal(t, "as soon as may be", set, want, api.Fault{})
		}
	}
	for _, code := range []api.Errno{api.OK, api.ErrRange, api.ErrMany} {
		if seen[code] < 200 {
			t.Errorf("%v was seen %d times", code, seen[code])
		}
	}
}

func TestJobs(t *testing.T) {
	set := two()
	wantJobs(t, "one", set, []api.Come{{Task: 1, At: 5}}, []int{1}, []int{2}, []api.Job{{Task: 1, At: 6, C: 2, Due: 11, P: 2}}, api.Fault{})
	wantJobs(t, "none", set, nil, nil, nil, nil, api.Fault{})
	wantJobs(t, "none", set, []api.Come{}, []int{}, []int{}, nil, api.Fault{})
	wantJobs(t, "some", set, []api.Come{{Task: 1, At: 0}, {Task: 0, At: 0}, {Task: 0, At: 4}, {Task: 1, At: 6}}, []int{1, 0, 0, 0}, []int{1, 1, 1, 2},
		[]api.Job{{Task: 1, At: 1, C: 1, Due: 6, P: 2}, {Task: 0, At: 0, C: 1, Due: 4, P: 3}, {Task: 0, At: 4, C: 1, Due: 8, P: 3}, {Task: 1, At: 6, C: 2, Due: 12, P: 2}}, api.Fault{})
	// One that is very late may be there behind a later one, and behind its own end.
	late := []api.Task{{Name: "a", C: 10000, T: 1, D: 10000, J: 10000, P: 1000}}
	wantJobs(t, "greatest", late, times(0, 1, 20000), []int{10000, 0, 10000}, []int{10000, 1, 10000},
		[]api.Job{{At: 10000, C: 10000, Due: 10000, P: 1000}, {At: 1, C: 1, Due: 10001, P: 1000}, {At: 30000, C: 10000, Due: 30000, P: 1000}}, api.Fault{})
}

func TestJobsFaults(t *testing.T) {
	set := []api.Task{{Name: "a", C: 3, T: 4, D: 4, J: 2}, {Name: "b", C: 5, T: 4, D: 9, J: 0, O: 7}}
	comes := []api.Come{{Task: 0, At: 0}, {Task: 1, At: 1}, {Task: 0, At: 4}}
	good := func() ([]int, []int) { return []int{2, 0, 0}, []int{3, 5, 1} }
	late, takes := good()
	for n := range 6 {
		if n == 3 {
			continue
		}
		other := make([]int, n)
		wantJobs(t, "late has others", set, comes, other, takes, nil, fault(api.ErrMany, 0))
		wantJobs(t, "takes has others", set, comes, late, other, nil, fault(api.ErrMany, 0))
		wantJobs(t, "both have others", set, comes, other, other, nil, fault(api.ErrMany, 0))
	}
	wantJobs(t, "no comes, but late", set, nil, []int{0}, nil, nil, fault(api.ErrMany, 0))
	wantJobs(t, "no comes, but takes", set, nil, nil, []int{1}, nil, fault(api.ErrMany, 0))
	wantJobs(t, "others, and out of range", set, comes, []int{-1, -1}, []int{0, 0, 0}, nil, fault(api.ErrMany, 0))
	for i, c := range comes {
		for n := -2; n <= 8; n++ {
			for _, what := range []string{"late", "takes"} {
				late, takes := good()
				least, most := 0, set[c.Task].J
				if what == "late" {
					late[i] = n
				} else {
					takes[i] = n
					least, most = 1, set[c.Task].C
				}
				_, f := tasks.Jobs(set, comes, late, takes)
				if n < least || n > most {
					wantJobs(t, what, set, comes, late, takes, nil, fault(api.ErrRange, i))
				} else if f != (api.Fault{}) {
					t.Errorf("%s %d at %d: %v", what, n, i, f)
				}
			}
		}
	}
	for _, n := range []int{math.MinInt, math.MaxInt} {
		wantJobs(t, "late far beyond", set, comes, []int{0, n, 0}, takes, nil, fault(api.ErrRange, 1))
		wantJobs(t, "takes far beyond", set, comes, late, []int{1, 1, n}, nil, fault(api.ErrRange, 2))
	}
	// The first number with which something is wrong is told, whichever list has it.
	wantJobs(t, "late ahead", set, comes, []int{3, 0, 0}, []int{3, 5, 4}, nil, fault(api.ErrRange, 0))
	wantJobs(t, "takes ahead", set, comes, []int{2, 0, 3}, []int{4, 5, 3}, nil, fault(api.ErrRange, 0))
	wantJobs(t, "both at once", set, comes, []int{2, 1, 0}, []int{3, 0, 3}, nil, fault(api.ErrRange, 1))
	// Legal's faults come ahead of these.
	wantJobs(t, "not legal", set, []api.Come{{Task: 0, At: 0}, {Task: 0, At: 3}}, []int{-1, -1}, nil, nil, fault(api.ErrOrder, 1))
}

func TestJobsAnotherWay(t *testing.T) {
	m := newMaker(7)
	right, wrong := 0, 0
	for range 3000 {
		set := m.set(20)
		comes, f := otherComes(set, m.Intn(100))
		if f.Code != api.OK {
			t.Fatal(f)
		}
		late, takes := make([]int, len(comes)), make([]int, len(comes))
		var want []api.Job
		for i, c := range comes {
			x := set[c.Task]
			late[i], takes[i] = m.Intn(x.J+1), 1+m.Intn(x.C)
			want = append(want, api.Job{Task: c.Task, At: c.At + late[i], C: takes[i], Due: c.At + x.D, P: x.P})
		}
		wantJobs(t, "made", set, comes, late, takes, want, api.Fault{})
		right++
		if len(comes) == 0 {
			continue
		}
		i := m.Intn(len(comes))
		x := set[comes[i].Task]
		if m.Intn(2) == 0 {
			late[i] = m.one(-1, x.J+1)
		} else {
			takes[i] = m.one(0, x.C+1)
		}
		wantJobs(t, "made", set, comes, late, takes, nil, fault(api.ErrRange, i))
		wrong++
	}
	if right < 1000 || wrong < 1000 {
		t.Errorf("%d, %d", right, wrong)
	}
}
