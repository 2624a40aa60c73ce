package tasks_test

import (
	"cmp"
	"fmt"
	"math"
	"math/rand"
	"regexp"
	"slices"
	"strconv"
	"strings"
	"testing"

	"punctual/api"
	"punctual/frac"
	"punctual/tasks"
)

func fault(code api.Errno, at int) api.Fault { return api.Fault{Code: code, At: at} }

// plain is a task with nothing beside its name, C, T and D.
func plain(name string, c, t, d int) api.Task { return api.Task{Name: name, C: c, T: t, D: d} }

// with is a copy of a task that is changed.
func with(t api.Task, change func(t *api.Task)) api.Task {
	change(&t)
	return t
}

// several are n tasks that nothing is wrong with.
func several(n int) []api.Task {
	var set []api.Task
	for i := range n {
		set = append(set, plain("t"+strings.Repeat("x", i), 1+i, 10*(1+i), 2+i))
	}
	return set
}

// times are comes of the first task.
func times(l ...int) []api.Come {
	var comes []api.Come
	for _, at := range l {
		comes = append(comes, api.Come{At: at})
	}
	return comes
}

// equal: are two lists alike, whether they are nil or not?
func equal[E comparable](a, b []E) bool { return slices.Equal(a, b) }

func wantCheck(t *testing.T, what string, set []api.Task, want api.Fault) {
	t.Helper()
	if got := tasks.Check(set); got != want {
		t.Errorf("Check, %s: %v, want %v", what, got, want)
	}
	if want.Code != api.OK {
		wantNothing(t, what, set, want)
	}
}

// wantNothing: does each call tell what Check says of a set, and nothing else, whatever else is wrong?
func wantNothing(t *testing.T, what string, set []api.Task, want api.Fault) {
	t.Helper()
	if got := tasks.Print(set); got != "" {
		t.Errorf("Print, %s: %q", what, got)
	}
	if x, f := tasks.Use(set); x != (frac.Frac{}) || f != want {
		t.Errorf("Use, %s: %v %v, want %v", what, x, f, want)
	}
	if n, f := tasks.Hyper(set); n != 0 || f != want {
		t.Errorf("Hyper, %s: %v %v, want %v", what, n, f, want)
	}
	for _, until := range []int{0, 100, -1, api.MaxUntil + 1} {
		if l, f := tasks.Comes(set, until); l != nil || f != want {
			t.Errorf("Comes, %s: %v %v, want %v", what, l, f, want)
		}
	}
	for _, comes := range [][]api.Come{nil, times(0), {{Task: -1}}, {{Task: api.MaxTasks + 1}}, make([]api.Come, api.MaxJobs+1)} {
		if f := tasks.Legal(set, comes); f != want {
			t.Errorf("Legal, %s: %v, want %v", what, f, want)
		}
		if l, f := tasks.Jobs(set, comes, nil, []int{-1}); l != nil || f != want {
			t.Errorf("Jobs, %s: %v %v, want %v", what, l, f, want)
		}
	}
}

func wantParse(t *testing.T, text string, want []api.Task, f api.Fault) {
	t.Helper()
	got, g := tasks.Parse(text)
	if g != f || !equal(got, want) || f.Code != api.OK && got != nil {
		t.Errorf("Parse, %.200q: %.300s %v, want %.300s %v", text, fmt.Sprint(got), g, fmt.Sprint(want), f)
	}
}

func wantLegal(t *testing.T, what string, set []api.Task, comes []api.Come, want api.Fault) {
	t.Helper()
	if got := tasks.Legal(set, comes); got != want {
		t.Errorf("Legal, %s: %v, want %v", what, got, want)
	}
	if want.Code == api.OK {
		return
	}
	if l, f := tasks.Jobs(set, comes, nil, []int{-1}); l != nil || f != want {
		t.Errorf("Jobs, %s: %v %v, want %v", what, l, f, want)
	}
}

func wantComes(t *testing.T, what string, set []api.Task, until int, want []api.Come, f api.Fault) {
	t.Helper()
	got, g := tasks.Comes(set, until)
	if g != f || !equal(got, want) || f.Code != api.OK && got != nil {
		t.Errorf("Comes, %s, until %d: %.300s %v, want %.300s %v", what, until, fmt.Sprint(got), g, fmt.Sprint(want), f)
	}
}

func wantJobs(t *testing.T, what string, set []api.Task, comes []api.Come, late, takes []int, want []api.Job, f api.Fault) {
	t.Helper()
	got, g := tasks.Jobs(set, comes, late, takes)
	if g != f || !equal(got, want) || f.Code != api.OK && got != nil {
		t.Errorf("Jobs, %s: %.300s %v, want %.300s %v", what, fmt.Sprint(got), g, fmt.Sprint(want), f)
	}
}

var named = regexp.MustCompile(`\A[a-z]{1,10}\z`)

// otherCheck is P7.1 in another way: all that is wrong, of which the least is told.
func otherCheck(set []api.Task) api.Fault {
	if len(set) == 0 || len(set) > 8 {
		return fault(api.ErrMany, 0)
	}
	rank := []api.Errno{api.ErrName, api.ErrTwice, api.ErrRange, api.ErrOrder}
	var all [][2]int // the task's number, the rank
	first := map[string]int{}
	for i, t := range set {
		if !named.MatchString(t.Name) {
			all = append(all, [2]int{i, 0})
		}
		if _, ok := first[t.Name]; ok {
			all = append(all, [2]int{i, 1})
		}
		first[t.Name] = i
		if min(t.C, t.T, t.D) < 1 || max(t.C, t.T, t.D, t.J, t.O) > 10000 || min(t.J, t.O, t.P) < 0 || t.P > 1000 {
			all = append(all, [2]int{i, 2})
		}
		if t.C > t.D {
			all = append(all, [2]int{i, 3})
		}
	}
	if len(all) == 0 {
		return api.Fault{}
	}
	least := slices.MinFunc(all, func(a, b [2]int) int { return slices.Compare(a[:], b[:]) })
	return fault(rank[least[1]], least[0])
}

var written = regexp.MustCompile(`\A([^ \n]*) (0|[1-9]\d{0,4}) (0|[1-9]\d{0,4}) (0|[1-9]\d{0,4}) (0|[1-9]\d{0,4}) (0|[1-9]\d{0,4}) (0|[1-9]\d{0,4})\n\z`)

// otherParse is Parse in another way.
func otherParse(text string) ([]api.Task, api.Fault) {
	if len(text) > 20000 {
		return nil, fault(api.ErrMany, 0)
	}
	var set []api.Task
	for i, line := range strings.SplitAfter(text, "\n") {
		if line == "" {
			break // behind the last line feed
		}
		parts := written.FindStringSubmatch(line)
		if parts == nil {
			return nil, fault(api.ErrText, i)
		}
		var n [6]int
		for k := range n {
			n[k], _ = strconv.Atoi(parts[2+k])
		}
		set = append(set, api.Task{Name: parts[1], C: n[0], T: n[1], D: n[2], J: n[3], O: n[4], P: n[5]})
	}
	if f := otherCheck(set); f.Code != api.OK {
		return nil, f
	}
	return set, api.Fault{}
}

// otherLegal is P7.4 in another way, of a set that Check takes: each come is held against all ahead of it.
func otherLegal(set []api.Task, comes []api.Come) api.Fault {
	if len(comes) > 4000 {
		return fault(api.ErrMany, 0)
	}
	for i, c := range comes {
		if c.Task < 0 || c.Task >= len(set) {
			return fault(api.ErrName, i)
		}
		if c.At < 0 || c.At > 20000 {
			return fault(api.ErrRange, i)
		}
		for _, ahead := range comes[:i] {
			if c.At < ahead.At || c.Task == ahead.Task && c.At-ahead.At < set[c.Task].T {
				return fault(api.ErrOrder, i)
			}
		}
	}
	return api.Fault{}
}

// otherComes is P7.5 in another way, of a set that Check takes: task by task, sorted at the end.
func otherComes(set []api.Task, until int) ([]api.Come, api.Fault) {
	if until < 0 || until > 20000 {
		return nil, fault(api.ErrRange, 0)
	}
	var l []api.Come
	for i, t := range set {
		for at := t.O; at < until; at += t.T {
			l = append(l, api.Come{Task: i, At: at})
		}
	}
	if len(l) > 4000 {
		return nil, fault(api.ErrMany, 0)
	}
	slices.SortFunc(l, func(a, b api.Come) int { return cmp.Or(a.At-b.At, a.Task-b.Task) })
	return l, api.Fault{}
}

// maker makes sets and comes, always the same ones from the same seed.
type maker struct{ *rand.Rand }

func newMaker(seed int64) maker { return maker{rand.New(rand.NewSource(seed))} }

// one is one of some numbers.
func (m maker) one(l ...int) int { return l[m.Intn(len(l))] }

// set is a set that Check takes, of tasks with T up to most.
func (m maker) set(most int) []api.Task {
	var set []api.Task
	for i := range 1 + m.Intn(api.MaxTasks) {
		d := 1 + m.Intn(most)
		name := strings.Repeat(string(rune('a'+m.Intn(26))), m.Intn(10)) + string(rune('a'+i))
		if slices.ContainsFunc(set, func(t api.Task) bool { return t.Name == name }) {
			continue
		}
		set = append(set, api.Task{Name: name, C: 1 + m.Intn(d), T: 1 + m.Intn(most), D: d, J: m.Intn(most), O: m.Intn(most), P: m.Intn(1001)})
	}
	return set
}

// edges is a set of which each number lies mostly at an end of what is allowed, and now and then beyond it.
func (m maker) edges() []api.Task {
	number := func(least, most int) int {
		if m.Intn(40) == 0 {
			return m.one(least-1, most+1, math.MinInt, math.MaxInt)
		}
		return m.one(least, least+1, most-1, most)
	}
	var set []api.Task
	for range m.Intn(api.MaxTasks + 2) {
		name := string(rune('a'+m.Intn(8))) + string(rune('a'+m.Intn(20)))
		if m.Intn(40) == 0 {
			name = []string{"", "abcdefghijk", "A", "a b", "ä", "a1", "a\x80"}[m.Intn(7)]
		}
		t := api.Task{Name: name, C: number(1, 10000), T: number(1, 10000), D: number(1, 10000), J: number(0, 10000), O: number(0, 10000), P: number(0, 1000)}
		if t.C > t.D && m.Intn(10) > 0 {
			t.C, t.D = t.D, t.C
		}
		set = append(set, t)
	}
	return set
}

// comes are comes of a set that are legal but for some.
func (m maker) comes(set []api.Task, n int) []api.Come {
	var l []api.Come
	now := 0
	for range n {
		now += m.Intn(4)
		c := api.Come{Task: m.Intn(len(set)), At: now}
		switch m.Intn(60) {
		case 0:
			c.Task = m.one(-1, len(set), math.MinInt, math.MaxInt)
		case 1:
			c.At = m.one(-1, api.MaxUntil, api.MaxUntil+1, math.MinInt, math.MaxInt)
		case 2:
			c.At = max(0, now-1)
		}
		l = append(l, c)
	}
	return l
}
