package tasks_test

import (
	"math"
	"math/big"
	"slices"
	"strconv"
	"strings"
	"testing"

	"punctual/api"
	"punctual/tasks"
)

func TestCheck(t *testing.T) {
	wantCheck(t, "of the document", []api.Task{{Name: "a", C: 1, T: 4, D: 4, P: 3}, {Name: "b", C: 2, T: 6, D: 6, P: 2}, {Name: "c", C: 3, T: 12, D: 12, P: 1}}, api.Fault{})
	wantCheck(t, "C above T", []api.Task{plain("a", 5, 4, 6)}, api.Fault{})
	wantCheck(t, "D above T", []api.Task{plain("a", 1, 4, 10)}, api.Fault{})
	wantCheck(t, "J above T and D", []api.Task{{Name: "a", C: 1, T: 2, D: 3, J: 4}}, api.Fault{})
	wantCheck(t, "one P twice", []api.Task{{Name: "a", C: 1, T: 2, D: 3, P: 4}, {Name: "b", C: 1, T: 2, D: 3, P: 4}}, api.Fault{})
}

func TestCheckHowMany(t *testing.T) {
	for n := 1; n <= api.MaxTasks; n++ {
		wantCheck(t, "as many as may be", several(n), api.Fault{})
	}
	wantCheck(t, "none", nil, fault(api.ErrMany, 0))
	wantCheck(t, "none", []api.Task{}, fault(api.ErrMany, 0))
	wantCheck(t, "one too many", several(api.MaxTasks+1), fault(api.ErrMany, 0))
	wantCheck(t, "one too many, and all wrong", make([]api.Task, api.MaxTasks+1), fault(api.ErrMany, 0))
	wantCheck(t, "far too many", make([]api.Task, 100000), fault(api.ErrMany, 0))
}

func TestCheckNames(t *testing.T) {
	for _, name := range []string{"a", "z", "az", "qwertyuiop", "zzzzzzzzzz", "aaaaaaaaaa"} {
		wantCheck(t, name, []api.Task{plain(name, 1, 1, 1)}, api.Fault{})
	}
	for _, name := range []string{
		"", "qwertyuiopa", "zzzzzzzzzzz", strings.Repeat("a", 100000), "A", "Z", "aB", "Ab", "`", "{", "a`", "{a", "a1", "1", "0",
		" ", "a ", " a", "a b", "a_b", "a-b", "a.", "a\n", "\n", "a\x00", "\x00", "a\t", "a\r", "ä", "aä", "é", "ａ", "а", "\x80", "a\xff", "abcdefghi\xc3", "\ufffd", "aaaaaaaaaä",
	} {
		wantCheck(t, name, []api.Task{plain(name, 1, 1, 1)}, fault(api.ErrName, 0))
		wantCheck(t, name, []api.Task{plain("a", 1, 1, 1), plain(name, 1, 1, 1)}, fault(api.ErrName, 1))
	}
}

func TestCheckTwice(t *testing.T) {
	a, b, c := plain("a", 1, 2, 3), plain("b", 1, 2, 3), plain("c", 1, 2, 3)
	wantCheck(t, "at once", []api.Task{a, a}, fault(api.ErrTwice, 1))
	wantCheck(t, "further below", []api.Task{a, b, c, a}, fault(api.ErrTwice, 3))
	wantCheck(t, "the middle one", []api.Task{a, b, c, b}, fault(api.ErrTwice, 3))
	wantCheck(t, "the first of two", []api.Task{a, b, b, a}, fault(api.ErrTwice, 2))
	wantCheck(t, "three times", []api.Task{a, a, a}, fault(api.ErrTwice, 1))
	wantCheck(t, "another task", []api.Task{a, plain("a", 7, 8, 9)}, fault(api.ErrTwice, 1))
	wantCheck(t, "a beginning", []api.Task{plain("aa", 1, 2, 3), a, plain("aaa", 1, 2, 3), b}, api.Fault{})
	last := several(api.MaxTasks)
	last[api.MaxTasks-1].Name = last[0].Name
	wantCheck(t, "the last one", last, fault(api.ErrTwice, api.MaxTasks-1))
}

func TestCheckNumbers(t *testing.T) {
	base := api.Task{Name: "a", C: 1, T: 5, D: api.MaxTime, J: 1, O: 1, P: 1}
	for _, part := range []struct {
		what        string
		set         func(t *api.Task, n int)
		least, most int
	}{
		{"C", func(t *api.Task, n int) { t.C = n }, 1, api.MaxTime},
		{"T", func(t *api.Task, n int) { t.T = n }, 1, api.MaxTime},
		{"D", func(t *api.Task, n int) { t.D = n }, 1, api.MaxTime},
		{"J", func(t *api.Task, n int) { t.J = n }, 0, api.MaxTime},
		{"O", func(t *api.Task, n int) { t.O = n }, 0, api.MaxTime},
		{"P", func(t *api.Task, n int) { t.P = n }, 0, 1000},
	} {
		for _, n := range []int{math.MinInt, -10000, -2, -1, 0, 1, 2, 999, 1000, 1001, 9999, 10000, 10001, 10002, 1 << 32, 1<<32 + 1, math.MaxInt} {
			x := with(base, func(t *api.Task) { part.set(t, n) })
			want := api.Fault{}
			if n < part.least || n > part.most {
				want = fault(api.ErrRange, 0)
			}
			what := part.what + " " + strconv.Itoa(n)
			wantCheck(t, what, []api.Task{x}, want)
			if want.Code != api.OK {
				want.At = 1
			}
			wantCheck(t, what, []api.Task{plain("b", 1, 2, 3), x}, want)
		}
	}
}

func TestCheckOrder(t *testing.T) {
	for _, d := range []int{1, 2, 7, 9999} {
		wantCheck(t, "C just D", []api.Task{plain("a", d, 1, d)}, api.Fault{})
		wantCheck(t, "C one above D", []api.Task{plain("a", d+1, 10000, d)}, fault(api.ErrOrder, 0))
		wantCheck(t, "C one above D", []api.Task{plain("b", 1, 1, 1), plain("a", d+1, 10000, d), plain("c", 1, 1, 1)}, fault(api.ErrOrder, 1))
	}
	wantCheck(t, "both greatest", []api.Task{plain("a", 10000, 1, 10000)}, api.Fault{})
	wantCheck(t, "C one above the greatest D", []api.Task{plain("a", 10001, 1, 10000)}, fault(api.ErrRange, 0))
	wantCheck(t, "J doesn't count", []api.Task{{Name: "a", C: 3, T: 1, D: 3, J: 5}}, api.Fault{})
}

// TestCheckTellsTheFirst: task by task, and within a task name, twice, range, order.
func TestCheckTellsTheFirst(t *testing.T) {
	good := plain("a", 1, 2, 3)
	name := plain("A", 1, 2, 3)
	twice := plain("a", 1, 2, 3)
	scope := plain("b", 0, 2, 3)
	order := plain("c", 4, 2, 3)
	for _, c := range []struct {
		set  []api.Task
		want api.Fault
	}{
		{[]api.Task{good, order, scope, twice, name}, fault(api.ErrOrder, 1)},
		{[]api.Task{good, scope, order, twice, name}, fault(api.ErrRange, 1)},
		{[]api.Task{good, twice, scope, order, name}, fault(api.ErrTwice, 1)},
		{[]api.Task{good, name, twice, scope, order}, fault(api.ErrName, 1)},
		{[]api.Task{name, name}, fault(api.ErrName, 0)},
		{[]api.Task{good, plain("", -1, 0, -3)}, fault(api.ErrName, 1)},
		{[]api.Task{good, plain("a", 0, 0, 0)}, fault(api.ErrTwice, 1)},
		{[]api.Task{good, plain("a", 3, 1, 2)}, fault(api.ErrTwice, 1)},
		{[]api.Task{good, plain("b", 3, 0, 2)}, fault(api.ErrRange, 1)},
		{[]api.Task{good, {Name: "b", C: 3, T: 1, D: 2, P: 1001}}, fault(api.ErrRange, 1)},
		{[]api.Task{good, {Name: "b", C: 3, T: 1, D: 2, J: -1}}, fault(api.ErrRange, 1)},
		{[]api.Task{good, {Name: "b", C: 3, T: 1, D: 2, O: 10001}}, fault(api.ErrRange, 1)},
		{[]api.Task{good, plain("b", 1, 1, 0)}, fault(api.ErrRange, 1)},
	} {
		wantCheck(t, "the first", c.set, c.want)
	}
}

func TestCheckAnotherWay(t *testing.T) {
	m := newMaker(1)
	seen := map[api.Errno]int{}
	for range 20000 {
		set := m.edges()
		want := otherCheck(set)
		seen[want.Code]++
		if got := tasks.Check(set); got != want {
			t.Fatalf("%+v: %v, want %v", set, got, want)
		}
	}
	for _, code := range []api.Errno{api.OK, api.ErrMany, api.ErrName, api.ErrTwice, api.ErrRange, api.ErrOrder} {
		if seen[code] < 300 {
			t.Errorf("%v was seen %d times", code, seen[code])
		}
	}
}

func TestUse(t *testing.T) {
	for _, c := range []struct {
		set  []api.Task
		want string
	}{
		{[]api.Task{plain("a", 1, 4, 4), plain("b", 2, 6, 6), plain("c", 3, 12, 12)}, "5/6"},
		{[]api.Task{plain("a", 1, 4, 4), plain("b", 2, 6, 6), plain("c", 6, 12, 12)}, "13/12"},
		{[]api.Task{plain("a", 1, 2, 4), plain("b", 1, 2, 6)}, "1"},
		{[]api.Task{plain("a", 3, 1, 4)}, "3"},
		{[]api.Task{plain("a", 1, api.MaxTime, 1)}, "1/10000"},
		{[]api.Task{plain("a", api.MaxTime, 1, api.MaxTime)}, "10000"},
		{[]api.Task{{Name: "a", C: 1, T: 3, D: 5, J: 7, O: 11, P: 13}}, "1/3"},
		{[]api.Task{plain("a", 1, 9973, 1), plain("b", 1, 9967, 1), plain("c", 1, 9949, 1), plain("d", 1, 9941, 1), plain("e", 1, 9931, 1)}, ""},
	} {
		x, f := tasks.Use(c.set)
		want := c.want
		if want == "" {
			want = sum(c.set).RatString()
		}
		if x.Text() != want || f != (api.Fault{}) {
			t.Errorf("%v: %s %v, want %s", c.set, x.Text(), f, want)
		}
	}
}

func sum(set []api.Task) *big.Rat {
	all := new(big.Rat)
	for _, t := range set {
		all.Add(all, big.NewRat(int64(t.C), int64(t.T)))
	}
	return all
}

func TestUseAnotherWay(t *testing.T) {
	m := newMaker(2)
	for _, most := range []int{3, 20, 1000, api.MaxTime} {
		for range 500 {
			set := m.set(most)
			if x, f := tasks.Use(set); x.Text() != sum(set).RatString() || f != (api.Fault{}) {
				t.Fatalf("%v: %s %v, want %s", set, x.Text(), f, sum(set).RatString())
			}
		}
	}
}

// periods is a set whose tasks have these T.
func periods(l ...int) []api.Task {
	var set []api.Task
	for i, n := range l {
		set = append(set, plain(string(rune('a'+i)), 1, n, 1))
	}
	return set
}

func TestHyper(t *testing.T) {
	for _, c := range []struct {
		l    []int
		want int
		f    api.Fault
	}{
		{[]int{4, 6, 10}, 60, api.Fault{}},
		{[]int{4, 6, 12}, 12, api.Fault{}},
		{[]int{1}, 1, api.Fault{}},
		{[]int{1, 1}, 1, api.Fault{}},
		{[]int{api.MaxTime}, api.MaxTime, api.Fault{}},
		{[]int{1000, 1000, 1000}, 1000, api.Fault{}},
		{[]int{64, 3125, 5}, 200000, api.Fault{}},
		{[]int{1000, 999}, 999000, api.Fault{}},
		{[]int{8, 5, 25, 1}, 200, api.Fault{}},
		{[]int{9999, 10000}, 0, fault(api.ErrMany, 0)},
		{[]int{9973, 9967, 9949, 9941, 9931, 9929, 9923, 9907}, 0, fault(api.ErrMany, 0)},
	} {
		if n, f := tasks.Hyper(periods(c.l...)); n != c.want || f != c.f {
			t.Errorf("%v: %d %v, want %d %v", c.l, n, f, c.want, c.f)
		}
	}
}

// TestHyperAtTheEnd: just api.MaxHyper can't come of any T, as one of them would need the factor 5^6; one less is 999 times 1001, one more 101 times 9901.
func TestHyperAtTheEnd(t *testing.T) {
	for _, l := range [][]int{{999, 1001}, {27, 7, 11, 13, 37}, {1001, 1, 999, 143}, {9009, 999}} {
		if n, f := tasks.Hyper(periods(l...)); n != api.MaxHyper-1 || f != (api.Fault{}) {
			t.Errorf("%v: %d %v", l, n, f)
		}
	}
	for _, l := range [][]int{{101, 9901}, {9901, 101, 1}, {101, 101, 9901}} {
		if n, f := tasks.Hyper(periods(l...)); n != 0 || f != fault(api.ErrMany, 0) {
			t.Errorf("%v: %d %v", l, n, f)
		}
	}
	for a := 1; a <= api.MaxTime; a++ {
		for _, b := range []int{9999, 10000, 7919} {
			want, f := a/gcd(a, b)*b, api.Fault{}
			if want > 1000000 {
				want, f = 0, fault(api.ErrMany, 0)
			}
			if n, g := tasks.Hyper(periods(a, b)); n != want || g != f {
				t.Fatalf("%d and %d: %d %v, want %d %v", a, b, n, g, want, f)
			}
		}
	}
}

func gcd(a, b int) int {
	if b == 0 {
		return a
	}
	return gcd(b, a%b)
}

// TestMemory: what is handed in is only read, the spare room behind it, too, and no two answers share any.
func TestMemory(t *testing.T) {
	room := append(several(3), plain("spare", 7, 8, 9))
	set := room[:3]
	was := slices.Clone(room)
	comes := append(times(0, 10, 20, 30), api.Come{Task: 77, At: 78})
	wereComes := slices.Clone(comes)
	late, takes := []int{0, 0, 0, 0, 55}, []int{1, 1, 1, 1, 66}
	tasks.Check(set)
	tasks.Print(set)
	tasks.Use(set)
	tasks.Hyper(set)
	tasks.Legal(set, comes[:4])
	first, f := tasks.Comes(set, 100)
	jobs, g := tasks.Jobs(set, comes[:4], late[:4], takes[:4])
	if f != (api.Fault{}) || g != (api.Fault{}) || len(first) == 0 || len(jobs) != 4 {
		t.Fatalf("%v %v %v %v", first, f, jobs, g)
	}
	if !slices.Equal(room, was) || !slices.Equal(comes, wereComes) || !slices.Equal(late, []int{0, 0, 0, 0, 55}) || !slices.Equal(takes, []int{1, 1, 1, 1, 66}) {
		t.Error("what was handed in was changed")
	}
	again, _ := tasks.Comes(set, 100)
	jobsAgain, _ := tasks.Jobs(set, comes[:4], late[:4], takes[:4])
	read, _ := tasks.Parse(tasks.Print(set))
	readAgain, _ := tasks.Parse(tasks.Print(set))
	clear(first)
	clear(jobs)
	clear(read)
	if again[1].At != 0 || again[1].Task != 1 || jobsAgain[1].At != 10 || !slices.Equal(readAgain, set) {
		t.Errorf("answers share memory: %v %v %v", again, jobsAgain, readAgain)
	}
}
