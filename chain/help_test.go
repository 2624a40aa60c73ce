package chain_test

import (
	"fmt"
	"math/rand"
	"slices"
	"testing"

	"punctual/api"
	"punctual/chain"
	"punctual/fixed"
	"punctual/net"
)

func fault(code api.Errno, at int) api.Fault { return api.Fault{Code: code, At: at} }

func ints(l ...int) []int { return l }

func lists(l ...[]int) [][]int { return l }

func parts(l ...api.Part) []api.Part { return l }

// root is a part that begins a chain; its D is its T.
func root(core, c, t, p int) api.Part { return api.Part{Core: core, From: -1, C: c, T: t, D: t, P: p} }

// after is a part that is there as soon as another one is done.
func after(from, core, c, t, p int) api.Part {
	return api.Part{Core: core, From: from, C: c, T: t, D: t, P: p}
}

// told is a part that is there as soon as a message is over.
func told(from, send, core, c, t, p int) api.Part {
	return api.Part{Core: core, From: from, Send: send, C: c, T: t, D: t, P: p}
}

// due is a part with a D of its own.
func due(d int, p api.Part) api.Part {
	p.D = d
	return p
}

// given are the parts of the tests that are given.
func given() []api.Part {
	return parts(root(0, 2, 20, 2), told(0, 3, 1, 4, 20, 1), root(1, 1, 10, 2), after(2, 0, 1, 10, 1))
}

// several are n parts that nothing is wrong with, and that are in time, each on whichever core.
func several(n int) []api.Part {
	var l []api.Part
	for i := range n {
		switch i % 3 {
		case 0:
			l = append(l, root(i%api.MaxCores, 1+i%2, 1000+i, 900-i))
		case 1:
			l = append(l, told(i-1, 2, i%api.MaxCores, 3, 999+i, 500))
		default:
			l = append(l, after(i-1, i%api.MaxCores, 2, 998+i, i))
		}
	}
	return l
}

// alone are n parts that begin a chain each, and lie on the cores in turn.
func alone(n int) []api.Part {
	var l []api.Part
	for i := range n {
		l = append(l, root(i%api.MaxCores, 1, 100, 1))
	}
	return l
}

// comes are pairs of a part and when its chain comes.
func comes(l ...int) []api.Come {
	var all []api.Come
	for i := 0; i < len(l); i += 2 {
		all = append(all, api.Come{Task: l[i], At: l[i+1]})
	}
	return all
}

// changed is a copy of a list of which one entry is changed.
func changed[E any](l []E, i int, change func(e *E)) []E {
	l = slices.Clone(l)
	change(&l[i])
	return l
}

// onCores are the parts, but on other cores.
func onCores(l []api.Part, cores ...int) []api.Part {
	l = slices.Clone(l)
	for i, core := range cores {
		l[i].Core = core
	}
	return l
}

// none are n times -1.
func none(n int) []int { return slices.Repeat(ints(-1), n) }

func sameLists(a, b [][]int) bool { return slices.EqualFunc(a, b, slices.Equal) }

// short is how a value is told that may be long.
func short(v any) string { return fmt.Sprintf("%.400s", fmt.Sprint(v)) }

// wantCheck: does Check say so, and, if something is wrong, all other calls, too, whatever else is wrong?
func wantCheck(t *testing.T, what string, l []api.Part, want api.Fault) {
	t.Helper()
	if got := chain.Check(l); got != want {
		t.Errorf("Check, %s: %v, want %v (%s)", what, got, want, short(l))
	}
	if want == (api.Fault{}) {
		return
	}
	wantNoResponses(t, what, l, want)
	for _, cores := range ints(-1, 0, 1, api.MaxCores, api.MaxCores+1) {
		wantNoPlace(t, what, l, cores, want)
	}
	for _, until := range ints(-1, 0, 9, api.MaxUntil+1) {
		wantNoPlay(t, what, l, nil, nil, until, want)
		wantNoPlay(t, what, l, comes(0, 0), ints(0), until, want)
		wantNoPlay(t, what, l, comes(-1, -1), ints(-1), until, want)
	}
	wantNoPlay(t, what, l, make([]api.Come, api.MaxJobs+1), nil, 9, want)
}

func wantResponses(t *testing.T, what string, l []api.Part, want ...int) {
	t.Helper()
	if got, f := chain.Responses(l); f != (api.Fault{}) || !slices.Equal(got, want) {
		t.Errorf("Responses, %s: %v %v, want %v (%v)", what, got, f, want, l)
	}
}

func wantNoResponses(t *testing.T, what string, l []api.Part, want api.Fault) {
	t.Helper()
	if got, f := chain.Responses(l); f != want || got != nil {
		t.Errorf("Responses, %s: %v %v, want %v (%s)", what, got, f, want, short(l))
	}
}

func wantPlace(t *testing.T, what string, l []api.Part, cores int, want ...int) {
	t.Helper()
	if got, f := chain.Place(l, cores); f != (api.Fault{}) || !slices.Equal(got, want) {
		t.Errorf("Place, %s, on %d cores: %v %v, want %v (%v)", what, cores, got, f, want, l)
	}
}

func wantNoPlace(t *testing.T, what string, l []api.Part, cores int, want api.Fault) {
	t.Helper()
	if got, f := chain.Place(l, cores); f != want || got != nil {
		t.Errorf("Place, %s, on %d cores: %v %v, want %v (%s)", what, cores, got, f, want, short(l))
	}
}

func wantPlay(t *testing.T, what string, l []api.Part, come []api.Come, takes []int, until int, want ...[]int) {
	t.Helper()
	if got, f := chain.Play(l, come, takes, until); f != (api.Fault{}) || !sameLists(got, want) {
		t.Errorf("Play, %s, until %d: %s %v, want %s (%v, %s, %s)", what, until, short(got), f, short(want), l, short(come), short(takes))
	}
}

func wantNoPlay(t *testing.T, what string, l []api.Part, come []api.Come, takes []int, until int, want api.Fault) {
	t.Helper()
	if got, f := chain.Play(l, come, takes, until); f != want || got != nil {
		t.Errorf("Play, %s, until %d: %s %v, want %v (%s)", what, until, short(got), f, want, short(l))
	}
}

// otherCheck is P18.1 in another way: each thing that may be wrong is looked for alone.
func otherCheck(l []api.Part) api.Fault {
	if n := len(l); n == 0 || n >= 9 {
		return fault(api.ErrMany, 0)
	}
	for i, p := range l {
		for _, bad := range []bool{p.Core <= -1, p.Core >= 4, p.Send <= -1, p.Send >= 1001, p.C <= 0, p.C >= 10001, p.T <= 0, p.T >= 10001, p.P <= -1, p.P >= 1001} {
			if bad {
				return fault(api.ErrRange, i)
			}
		}
		if p.From <= -2 || p.From >= i || p.From == -1 && p.Send != 0 {
			return fault(api.ErrName, i)
		}
		if p.D < p.C || p.T < p.D {
			return fault(api.ErrOrder, i)
		}
		if p.From >= 0 && l[p.From].T != p.T {
			return fault(api.ErrOrder, i)
		}
	}
	return api.Fault{}
}

// otherCheckPlay is what Play says of all but the parts, likewise.
func otherCheckPlay(l []api.Part, come []api.Come, takes []int, until int) api.Fault {
	if len(come) >= 4001 {
		return fault(api.ErrMany, 0)
	}
	if until <= -1 || until >= 20001 || len(takes) > 0 && slices.Min(takes) < 0 {
		return fault(api.ErrRange, 0)
	}
	var begin []int
	for k, p := range l {
		if p.From == -1 {
			begin = append(begin, k)
		}
	}
	for i, c := range come {
		if !slices.Contains(begin, c.Task) {
			return fault(api.ErrName, i)
		}
		if c.At <= -1 || c.At >= 20001 {
			return fault(api.ErrRange, i)
		}
	}
	return api.Fault{}
}

// otherLateness is the lateness of part i, word by word, if parts take so long; false: Times says another than OK.
func otherLateness(l []api.Part, take []int, i int) (int, bool) {
	switch {
	case l[i].From == -1:
		return 0, true
	case l[i].Send == 0:
		return take[l[i].From], true
	}
	var frames []api.Frame
	place := 0
	for k, p := range l {
		if k == i {
			place = len(frames)
		}
		if p.Send != 0 {
			frames = append(frames, api.Frame{C: p.Send, T: p.T, D: p.D, J: take[p.From]})
		}
	}
	times, f := net.Times(frames)
	if f.Code != api.OK {
		return 0, false
	}
	return times[place], true
}

// otherTakes is how long part i takes, word by word, if parts take so long; false: Times or Response says another than OK.
func otherTakes(l []api.Part, take []int, i int) (int, bool) {
	var set []api.Task
	place := 0
	for k, p := range l {
		if k == i {
			place = len(set)
		}
		if p.Core != l[i].Core {
			continue
		}
		late, ok := otherLateness(l, take, k)
		if !ok {
			return 0, false
		}
		set = append(set, api.Task{Name: []string{"a", "b", "c", "d", "e", "f", "g", "h"}[k], C: p.C, T: p.T, D: p.D, J: late, P: p.P})
	}
	r, f := fixed.Response(set, place, 0)
	return r, f.Code == api.OK
}

// holds tells whether numbers are such as P18.2 asks for, least or not.
func holds(l []api.Part, take []int) bool {
	for i, n := range take {
		if got, ok := otherTakes(l, take, i); !ok || got != n {
			return false
		}
	}
	return true
}

// allNumbers are all numbers such as P18.2 asks for: each way to choose them is tried.
func allNumbers(l []api.Part) [][]int {
	var all [][]int
	take := make([]int, len(l))
	var choose func(i int)
	choose = func(i int) {
		if i == len(l) {
			if holds(l, take) {
				all = append(all, slices.Clone(take))
			}
			return
		}
		// Nobody takes longer than D, or less than C: so there are no others.
		for take[i] = l[i].C; take[i] <= l[i].D; take[i]++ {
			choose(i + 1)
		}
	}
	choose(0)
	return all
}

// least is of some lists the one of which no number is above that of another one; nil if there is none.
func least(all [][]int) []int {
	for _, a := range all {
		is := true
		for _, b := range all {
			for i := range a {
				is = is && a[i] <= b[i]
			}
		}
		if is {
			return a
		}
	}
	return nil
}

// byOne are the least numbers such as P18.2 asks for, found from below one by one, always that of the part which turn tells; nil if there are none.
func byOne(l []api.Part, turn func() int) []int {
	take := make([]int, len(l))
	for !holds(l, take) {
		i := turn()
		n, ok := otherTakes(l, take, i)
		if !ok {
			return nil
		}
		take[i] = n
	}
	return take
}

// otherPlace is P18.3 word by word: all ways are tried, from the first one on.
func otherPlace(l []api.Part, cores int) ([]int, api.Fault) {
	ways := 1
	for range l {
		ways *= cores
	}
	for number := range ways {
		way := make([]int, len(l))
		for i, rest := len(l)-1, number; i >= 0; i, rest = i-1, rest/cores {
			way[i] = rest % cores
		}
		if _, f := chain.Responses(onCores(l, way...)); f.Code == api.OK {
			return way, api.Fault{}
		}
	}
	return nil, fault(api.ErrNone, 0)
}

// maker makes parts and comings, always the same ones from the same seed.
type maker struct{ *rand.Rand }

func newMaker(seed int64) maker { return maker{rand.New(rand.NewSource(seed))} }

// one is one of some numbers.
func (m maker) one(l ...int) int { return l[m.Intn(len(l))] }

// within is a number from least to most.
func (m maker) within(least, most int) int { return least + m.Intn(most-least+1) }

// parts are n parts on up to so many cores, with periods up to most, which together use about share hundredths of each core, and of the bus, if there were but one.
func (m maker) parts(n, cores, most, share int) []api.Part {
	var l []api.Part
	lone, talk, tight := m.within(0, 4), m.one(0, 1, 2, 4), m.one(0, 4)
	for i := range n {
		p := api.Part{Core: m.Intn(cores), From: -1, T: m.within(min(3, most), most), P: m.Intn(n + 1)}
		if i > 0 && m.Intn(5) >= lone {
			p.From = m.one(i-1, m.Intn(i))
			p.T = l[p.From].T
			if m.Intn(4) < talk {
				p.Send = min(1000, max(1, p.T*m.Intn(2*share+1)/(100*n)))
			}
		}
		p.C = min(p.T, max(1, p.T*m.Intn(2*share+1)/(100*n)))
		p.D = p.T
		if m.Intn(4) < tight {
			p.D = m.within(p.C, p.T)
		}
		l = append(l, p)
	}
	return l
}

// takes are some entries from which follows how long jobs work.
func (m maker) takes() []int {
	l := make([]int, m.one(0, 0, 1, 2, 3, m.Intn(30)))
	for i := range l {
		l[i] = m.one(0, 1, m.Intn(10), m.Intn(1<<40))
	}
	return l
}

// roots are the parts that begin a chain.
func roots(l []api.Part) []int {
	var all []int
	for k, p := range l {
		if p.From < 0 {
			all = append(all, k)
		}
	}
	return all
}
