package serve_test

import (
	"math"
	"slices"
	"strings"
	"testing"

	"punctual/api"
	"punctual/serve"
)

func TestCheck(t *testing.T) {
	for _, kind := range kinds() {
		for _, c := range []struct {
			q, p int
			want api.Errno
		}{
			{1, 1, api.OK}, {1, 2, api.OK}, {3, 7, api.OK}, {7, 7, api.OK}, {1, api.MaxTime, api.OK}, {api.MaxTime, api.MaxTime, api.OK},
			{0, 1, api.ErrRange}, {-1, 1, api.ErrRange}, {0, 0, api.ErrRange}, {-3, -3, api.ErrRange}, {math.MinInt, 5, api.ErrRange},
			{2, 1, api.ErrRange}, {7, 6, api.ErrRange}, {1, 0, api.ErrRange}, {1, -1, api.ErrRange}, {math.MaxInt, 5, api.ErrRange},
			{1, api.MaxTime + 1, api.ErrRange}, {api.MaxTime + 1, api.MaxTime + 1, api.ErrRange}, {math.MaxInt, math.MaxInt, api.ErrRange}, {1, math.MaxInt, api.ErrRange},
		} {
			wantCheck(t, "by its numbers", api.Server{Kind: kind, Q: c.q, P: c.p}, fault(c.want, 0))
		}
	}
	for _, kind := range []int{0, 4, -1, math.MinInt, math.MaxInt} {
		wantCheck(t, "no kind", api.Server{Kind: kind, Q: 1, P: 2}, fault(api.ErrOp, 0))
		wantCheck(t, "no kind, ahead of the numbers", api.Server{Kind: kind, Q: 0, P: -2}, fault(api.ErrOp, 0))
	}
	wantCheck(t, "nothing at all", api.Server{}, fault(api.ErrOp, 0))
}

func TestCheckAnotherWay(t *testing.T) {
	ends := []int{-1, 0, 1, 2, 3, 9999, 10000, 10001}
	for kind := -1; kind <= 5; kind++ {
		for _, q := range ends {
			for _, p := range ends {
				s := api.Server{Kind: kind, Q: q, P: p}
				wantCheck(t, "both ends", s, otherCheck(s))
			}
		}
	}
}

// two use 7/12 together.
func two() []api.Task { return named(task(1, 4, 3), task(2, 6, 2)) }

func TestAdmitsConstant(t *testing.T) {
	much := fault(api.ErrNone, 0)
	for _, c := range []struct {
		what string
		set  []api.Task
		s    api.Server
		want api.Fault
	}{
		{"just 1", two(), constant(5, 12), api.Fault{}},
		{"just 1, in greater numbers", two(), constant(4165, 9996), api.Fault{}},
		{"a little less", two(), constant(4166, 10000), api.Fault{}},
		{"a little more", two(), constant(4167, 10000), much},
		{"hardly more", two(), constant(4166, 9998), much},
		{"more", two(), constant(5, 11), much},
		{"all of it", two(), constant(1, 1), much},
		{"one task, half and half", named(task(1, 2, 1)), constant(1, 2), api.Fault{}},
		{"one task that takes all", named(task(1, 1, 1)), constant(1, api.MaxTime), much},
		{"one of three thirds", named(task(1, 3, 1), task(1, 3, 1)), constant(1, 3), api.Fault{}},
		{"D below T: C / D counts", named(till(1, 4, 2, 1)), constant(1, 2), api.Fault{}},
		{"D below T: C / D counts", named(till(1, 4, 2, 1)), constant(501, 1000), much},
		{"D above T: C / T counts", named(till(1, 4, 8, 1)), constant(3, 4), api.Fault{}},
		{"D above T: C / T counts", named(till(1, 4, 8, 1)), constant(751, 1000), much},
		{"C above T", named(till(5, 4, 8, 1)), constant(1, 1000), much},
		{"D below T at the second one", named(task(1, 4, 1), till(1, 9, 4, 1)), constant(1, 2), api.Fault{}},
		{"D below T at the second one", named(task(1, 4, 1), till(1, 9, 4, 1)), constant(51, 100), much},
		{"the priorities and O aren't asked", []api.Task{{Name: "a", C: 1, T: 2, D: 2, O: 7, P: 1000}, {Name: "b", C: 1, T: 4, D: 4, O: 9}}, constant(1, 4), api.Fault{}},
		{"J at the first one", changed(two(), 0, func(t *api.Task) { t.J = 1 }), constant(1, 12), fault(api.ErrOrder, 0)},
		{"J at a later one", changed(two(), 1, func(t *api.Task) { t.J = 1 }), constant(1, 12), fault(api.ErrOrder, 1)},
		{"as great a J as may be", changed(two(), 1, func(t *api.Task) { t.J = api.MaxTime }), constant(1, 12), fault(api.ErrOrder, 1)},
		{"J ahead of too much", changed(two(), 1, func(t *api.Task) { t.J = 1 }), constant(1, 1), fault(api.ErrOrder, 1)},
		{"as many tasks as may be", several(api.MaxTasks), constant(9, 10), api.Fault{}},
	} {
		for _, p := range []int{0, 1, 1000, -1, 1001, math.MinInt, math.MaxInt} { // p isn't asked
			wantAdmits(t, c.what, c.set, c.s, p, c.want)
		}
	}
	all := named(task(1, 8, 1), task(1, 8, 1), task(1, 8, 1), task(1, 8, 1), task(1, 8, 1), task(1, 8, 1), task(1, 8, 1))
	wantAdmits(t, "eight eighths", all, constant(1, 8), 0, api.Fault{})
	wantAdmits(t, "just 1, of a great prime", named(task(1, 9973, 1), task(9971, 9973, 1)), constant(1, 9973), 0, api.Fault{})
	wantAdmits(t, "a bit more", named(task(1, 9973, 1), task(9971, 9973, 1)), constant(1, 9972), 0, much)
}

func TestAdmitsTask(t *testing.T) {
	one := named(task(2, 4, 5))
	busy := named(task(4, 4, 5))
	three := named(task(3, 5, 1))
	for _, c := range []struct {
		what string
		set  []api.Task
		s    api.Server
		p    int
		want api.Fault
	}{
		{"beside it", two(), polling(1, 5), 9, api.Fault{}},
		{"p below the task's", one, polling(3, 5), 4, api.Fault{}},
		{"p equal to the task's", one, polling(3, 5), 5, fault(api.ErrNone, 0)},
		{"p above the task's", one, polling(3, 5), 6, fault(api.ErrNone, 0)},
		{"p below the task's", one, deferrable(3, 5), 4, api.Fault{}},
		{"p equal to the task's", one, deferrable(3, 5), 5, fault(api.ErrNone, 0)},
		{"p above the task's", one, deferrable(3, 5), 6, fault(api.ErrNone, 0)},
		{"p equal, with room", one, polling(2, 5), 5, api.Fault{}},
		{"the second one is in time", named(task(1, 4, 9), task(2, 6, 2)), polling(2, 6), 5, api.Fault{}},
		{"the second one isn't", named(task(1, 4, 9), task(2, 6, 2)), polling(3, 6), 5, fault(api.ErrNone, 1)},
		{"the first one that isn't", named(task(1, 4, 2), task(2, 6, 2), task(1, 3, 9)), polling(3, 6), 5, fault(api.ErrNone, 0)},
		{"not without it, either", named(task(1, 4, 2), task(4, 6, 2)), polling(1, 100), 0, fault(api.ErrNone, 0)},
		{"just in time", three, polling(2, 5), 2, api.Fault{}},
		{"twice as much within a little more than Q, at worst", three, deferrable(2, 5), 2, fault(api.ErrNone, 0)},
		{"just in time", three, deferrable(1, 5), 2, api.Fault{}},
		{"Q is all of P: no lateness", named(task(1, 5, 1)), deferrable(1, 1), 0, api.Fault{}},
		{"Q is all of P", named(task(1, 5, 1)), deferrable(1, 1), 2, fault(api.ErrNone, 0)},
		{"itself late, that alone is no fault", busy, polling(1, 5), 0, api.Fault{}},
		{"itself late, that alone is no fault", busy, deferrable(5, 5), 4, api.Fault{}},
		{"J of the tasks counts", []api.Task{{Name: "a", C: 1, T: 9, D: 5, J: 3, P: 1}}, polling(1, 5), 1, api.Fault{}},
		{"J of the tasks counts", []api.Task{{Name: "a", C: 1, T: 9, D: 5, J: 4, P: 1}}, polling(1, 5), 1, fault(api.ErrNone, 0)},
		{"D above T", named(task(1, 4, 1), till(1, 4, 5, 1)), polling(1, 5), 1, fault(api.ErrOrder, 1)},
		{"D above T, ahead of one that is late", named(task(1, 4, 1), till(1, 4, 5, 1)), polling(5, 5), 1, fault(api.ErrOrder, 1)},
		{"D above T at the first one", named(till(1, 4, 5, 1), task(1, 4, 1)), deferrable(1, 5), 1, fault(api.ErrOrder, 0)},
		{"long periods", several(3), polling(998, api.MaxTime), 1000, fault(api.ErrNone, 2)},
		{"long periods", several(3), polling(997, api.MaxTime), 1000, api.Fault{}},
		{"as long as may be", named(task(1, api.MaxTime, 0)), deferrable(api.MaxTime, api.MaxTime), 0, fault(api.ErrNone, 0)},
		{"as long as may be", named(task(1, api.MaxTime, 1)), deferrable(api.MaxTime, api.MaxTime), 0, api.Fault{}},
		{"as long as may be", named(task(1, api.MaxTime, 0)), polling(api.MaxTime-1, api.MaxTime), 0, api.Fault{}},
	} {
		wantAdmits(t, c.what, c.set, c.s, c.p, c.want)
	}
}

func TestAdmitsEnds(t *testing.T) {
	tardy := changed(several(api.MaxTasks), 0, func(t *api.Task) { t.D = t.T + 1 })
	for _, kind := range []int{api.Polling, api.Deferrable} {
		s := api.Server{Kind: kind, Q: 1, P: 10}
		for _, c := range []struct {
			p    int
			want api.Errno
		}{{-1, api.ErrRange}, {0, api.OK}, {1, api.OK}, {1000, api.OK}, {1001, api.ErrRange}, {math.MinInt, api.ErrRange}, {math.MaxInt, api.ErrRange}} {
			wantAdmits(t, "p", several(3), s, c.p, fault(c.want, 0))
			wantAdmits(t, "as many tasks as may be beside it", several(api.MaxTasks-1), s, c.p, fault(c.want, 0))
			many := fault(api.ErrMany, 0)
			if c.want != api.OK {
				many = fault(c.want, 0)
			}
			wantAdmits(t, "a task too many", several(api.MaxTasks), s, c.p, many)
			wantAdmits(t, "a task too many, ahead of the first task's fault", tardy, s, c.p, many)
			if c.want != api.OK {
				wantAdmits(t, "p, ahead of the first task's fault", tardy[:3], s, c.p, fault(c.want, 0))
			}
		}
		wantAdmits(t, "the first task's fault", tardy[:api.MaxTasks-1], s, 0, fault(api.ErrOrder, 0))
	}
}

// TestAdmitsWrong: what chapter 7's Check says, then what Check says of the server, then all else.
func TestAdmitsWrong(t *testing.T) {
	bad := []struct {
		what string
		set  []api.Task
		want api.Fault
	}{
		{"no tasks", nil, fault(api.ErrMany, 0)},
		{"too many tasks", several(api.MaxTasks + 1), fault(api.ErrMany, 0)},
		{"no name", changed(two(), 1, func(t *api.Task) { t.Name = "" }), fault(api.ErrName, 1)},
		{"the same name", changed(two(), 1, func(t *api.Task) { t.Name = "a" }), fault(api.ErrTwice, 1)},
		{"C", changed(two(), 0, func(t *api.Task) { t.C = 0 }), fault(api.ErrRange, 0)},
		{"T", changed(two(), 1, func(t *api.Task) { t.T = api.MaxTime + 1 }), fault(api.ErrRange, 1)},
		{"P", changed(two(), 1, func(t *api.Task) { t.P = 1001 }), fault(api.ErrRange, 1)},
		{"C above D", changed(two(), 1, func(t *api.Task) { t.D = 1 }), fault(api.ErrOrder, 1)},
	}
	servers := []api.Server{{}, {Kind: 4, Q: 1, P: 1}, polling(0, 1), polling(2, 1), deferrable(1, api.MaxTime+1), constant(0, 0), polling(1, 9), deferrable(1, 9), constant(1, 9)}
	late := changed(several(api.MaxTasks), 2, func(t *api.Task) { t.J, t.D = 1, t.T+1 })
	for _, s := range servers {
		for _, p := range []int{0, -1, 1001} {
			for _, c := range bad {
				wantAdmits(t, c.what, c.set, s, p, c.want)
			}
			if want := otherCheck(s); want.Code != api.OK {
				wantAdmits(t, "the server", two(), s, p, want)
				wantAdmits(t, "the server, ahead of the tasks", late, s, p, want)
			}
		}
	}
}

// TestAdmitsNames: whatever the tasks are called, the server is one more.
func TestAdmitsNames(t *testing.T) {
	letters := strings.Split("a b c d e f g h i j k l m n o p q r s t u v w x y z", " ")
	words := []string{"server", "polling", "deferrable", "soft", "serve", "aaaaaaaaaa", "zzzzzzzzzz"}
	check := func(names []string) {
		set := several(len(names))
		for i, name := range names {
			set[i].Name = name
		}
		for _, s := range []api.Server{polling(2, 10), deferrable(2, 10)} {
			wantAdmits(t, "names", set, s, 500, api.Fault{})
			wantAdmits(t, "names", changed(set, len(set)-1, func(t *api.Task) { t.C = t.D }), s, 500, fault(api.ErrNone, len(set)-1))
		}
	}
	for i := range letters {
		for n := 1; n < api.MaxTasks && i+n <= len(letters); n++ {
			names := slices.Clone(letters[i : i+n])
			check(names)
			slices.Reverse(names)
			check(names)
		}
	}
	check(words)
	m := newMaker(1)
	for range 300 {
		names := slices.Concat(letters, letters[:8], words)
		m.Shuffle(len(names), func(i, k int) { names[i], names[k] = names[k], names[i] })
		names = names[:m.within(1, api.MaxTasks-1)]
		slices.Sort(names)
		check(slices.Compact(names))
	}
}

func TestAdmitsAnotherWay(t *testing.T) {
	m := newMaker(2)
	var seen [4]map[api.Errno]int
	for kind := range seen {
		seen[kind] = map[api.Errno]int{}
	}
	for range 12000 {
		set := m.set(m.within(1, 5), m.one(4, 12, 40), m.one(30, 60, 90))
		for i := range set {
			switch m.Intn(12) {
			case 0:
				set[i].J = m.within(1, 5)
			case 1:
				set[i].D = m.within(set[i].C, 2*set[i].T)
			}
		}
		for _, kind := range kinds() {
			s := m.server(kind, m.one(5, 20, 40))
			p := m.Intn(len(set) + 2)
			want := otherAdmits(set, s, p)
			seen[kind][want.Code]++
			wantAdmits(t, "made", set, s, p, want)
		}
	}
	for _, kind := range kinds() {
		for _, code := range []api.Errno{api.OK, api.ErrNone, api.ErrOrder} {
			if seen[kind][code] < 1000 {
				t.Errorf("of kind %d %d is told %d times", kind, code, seen[kind][code])
			}
		}
	}
}

// TestAdmitsShort: all sets of one and two tasks of few numbers, all servers of few.
func TestAdmitsShort(t *testing.T) {
	var some []api.Task
	for c := 1; c <= 2; c++ {
		for period := 1; period <= 4; period++ {
			for d := c; d <= 5; d += 2 {
				for j := range 2 {
					some = append(some, api.Task{C: c, T: period, D: d, J: j, P: period % 2})
				}
			}
		}
	}
	for _, kind := range kinds() {
		for p := 1; p <= 4; p++ {
			for q := 1; q <= p; q++ {
				s := api.Server{Kind: kind, Q: q, P: p}
				for _, a := range some {
					wantAdmits(t, "short", named(a), s, 1, otherAdmits(named(a), s, 1))
					for _, b := range some {
						wantAdmits(t, "short", named(a, b), s, 0, otherAdmits(named(a, b), s, 0))
					}
				}
			}
		}
	}
}

func TestNothingIsChanged(t *testing.T) {
	m := newMaker(3)
	for range 300 {
		set := m.set(m.within(1, 5), 20, 50)
		tasks := append(slices.Clone(set), api.Task{Name: "behind", C: 7}, api.Task{O: 5})
		hard, soft := m.jobs(8, 20), m.soft(8, 20, 5)
		jobs, comes := append(slices.Clone(hard), api.Job{Task: -4}, api.Job{C: 3}), append(slices.Clone(soft), api.Job{Task: -5}, api.Job{C: 4})
		kept, keptJobs, keptComes := slices.Clone(tasks), slices.Clone(jobs), slices.Clone(comes)
		for _, kind := range kinds() {
			s := m.server(kind, 9)
			serve.Admits(tasks[:len(set)], s, 3)
			played, ends, _ := serve.Play(jobs[:len(hard)], s, 3, comes[:len(soft)], 30)
			for _, l := range [][]int{played.Runs, played.Ends, ends} {
				for i := range l {
					l[i] = 77
				}
			}
			if !slices.Equal(tasks, kept) || !slices.Equal(jobs, keptJobs) || !slices.Equal(comes, keptComes) {
				t.Fatalf("changed: %v %v %v", tasks, jobs, comes)
			}
		}
	}
}

// TestAnswersAreNew: what is done to one list of an answer is seen in no other one.
func TestAnswersAreNew(t *testing.T) {
	jobs, some := []api.Job{by(1, 0, 2), by(2, 3, 1)}, soft(1, 2, 2, 1)
	for _, kind := range kinds() {
		s := api.Server{Kind: kind, Q: 1, P: 2}
		lists := func() [][]int {
			p, ends, f := serve.Play(jobs, s, 3, some, 9)
			if f != (api.Fault{}) {
				t.Fatal(f)
			}
			return [][]int{p.Runs, p.Ends, ends}
		}
		kept := lists()
		for i := range kept {
			one, other := lists(), lists()
			_ = append(one[i][:0], slices.Repeat([]int{50}, cap(one[i]))...)
			for k := range kept {
				if k != i && !slices.Equal(one[k], kept[k]) || !slices.Equal(other[k], kept[k]) {
					t.Errorf("list %d shares with %d: %v %v", i, k, one, other)
				}
			}
		}
		for k, l := range lists() {
			if !slices.Equal(l, kept[k]) {
				t.Errorf("Play keeps something: %v", l)
			}
		}
	}
}
