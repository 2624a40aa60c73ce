package modes_test

import (
	"fmt"
	"math/rand"
	"slices"
	"testing"

	"punctual/api"
	"punctual/modes"
)

const (
	lastAt  = 3 * api.MaxUntil
	lastDue = 4 * api.MaxUntil
)

func fault(code api.Errno, at int) api.Fault { return api.Fault{Code: code, At: at} }

// high is a high task.
func high(c, h, t, d, p int) api.Crit { return api.Crit{C: c, H: h, T: t, D: d, High: true, P: p} }

// low is one that isn't high.
func low(c, t, d, p int) api.Crit { return api.Crit{C: c, H: c, T: t, D: d, P: p} }

func crits(l ...api.Crit) []api.Crit { return l }

// several are n tasks of two levels, each other one high, that are in time with much to spare.
func several(n int) []api.Crit {
	var set []api.Crit
	for i := range n {
		t := low(2, 1000+i, 900+i, 100-i)
		if i%2 == 0 {
			t = high(2, 5, 1000+i, 900+i, 100-i)
		}
		set = append(set, t)
	}
	return set
}

// changed is a copy of a list of which one is changed.
func changed[E any](l []E, i int, change func(e *E)) []E {
	l = slices.Clone(l)
	change(&l[i])
	return l
}

// comes are pairs of a task and when it comes.
func comes(l ...int) []api.Come {
	var all []api.Come
	for i := 0; i < len(l); i += 2 {
		all = append(all, api.Come{Task: l[i], At: l[i+1]})
	}
	return all
}

// windows are pairs of At and Len.
func windows(l ...int) []api.Window {
	var all []api.Window
	for i := 0; i < len(l); i += 2 {
		all = append(all, api.Window{At: l[i], Len: l[i+1]})
	}
	return all
}

// apart are n windows of one tick, with one tick between.
func apart(n int) []api.Window {
	var all []api.Window
	for i := range n {
		all = append(all, api.Window{At: 2 * i, Len: 1})
	}
	return all
}

// task is one whose D is its T.
func task(c, t, p int) api.Task { return api.Task{C: c, T: t, D: t, P: p} }

// late is one that may be there j ticks late.
func late(c, t, d, j, p int) api.Task { return api.Task{C: c, T: t, D: d, J: j, P: p} }

// named gives tasks the names a, b, c and so on.
func named(l ...api.Task) []api.Task {
	set := slices.Clone(l)
	for i := range set {
		set[i].Name = string(rune('a' + i))
	}
	return set
}

// by is a job with a priority.
func by(p, at, c int) api.Job { return api.Job{At: at, C: c, Due: 1000, P: p} }

func jobs(l ...api.Job) []api.Job { return l }

// many are n jobs that nothing is wrong with.
func many(n int) []api.Job {
	l := make([]api.Job, n)
	for i := range l {
		l[i] = api.Job{Task: i, At: i, C: 1 + i%7, Due: i + 20, P: i % 11}
	}
	return l
}

// none are n times -1.
func none(n int) []int { return slices.Repeat([]int{-1}, n) }

// runs writes down who ran: each number so many times as the one behind it says.
func runs(l ...int) []int {
	var all []int
	for i := 0; i < len(l); i += 2 {
		all = append(all, slices.Repeat(l[i:i+1], l[i+1])...)
	}
	return all
}

func ints(l ...int) []int { return l }

func wantCheck(t *testing.T, what string, set []api.Crit, want api.Fault) {
	t.Helper()
	if got := modes.Check(set); got != want {
		t.Errorf("Check, %s: %v, want %v (%v)", what, got, want, set)
	}
}

func wantResponses(t *testing.T, what string, set []api.Crit, well, ill []int) {
	t.Helper()
	w, v, f := modes.Responses(set)
	if f != (api.Fault{}) || !slices.Equal(w, well) || !slices.Equal(v, ill) {
		t.Errorf("Responses, %s: %v %v %v, want %v %v (%v)", what, w, v, f, well, ill, set)
	}
}

func wantNoResponses(t *testing.T, what string, set []api.Crit, want api.Fault) {
	t.Helper()
	if w, v, f := modes.Responses(set); f != want || w != nil || v != nil {
		t.Errorf("Responses, %s: %v %v %v, want %v (%v)", what, w, v, f, want, set)
	}
}

// wantPlay: is it played just so, in as many ticks as are wanted?
func wantPlay(t *testing.T, what string, set []api.Crit, comes []api.Come, takes, ran, ends []int, turned int) {
	t.Helper()
	m, f := modes.Play(set, comes, takes, len(ran))
	if f != (api.Fault{}) || !slices.Equal(m.Runs, ran) || !slices.Equal(m.Ends, ends) || m.Turned != turned {
		t.Errorf("Play, %s: %.300s %v, want %.300s %.300s %d (%v %.300s %.300s)", what, fmt.Sprint(m), f,
			fmt.Sprint(ran), fmt.Sprint(ends), turned, set, fmt.Sprint(comes), fmt.Sprint(takes))
	}
}

func wantNoPlay(t *testing.T, what string, set []api.Crit, comes []api.Come, takes []int, until int, want api.Fault) {
	t.Helper()
	m, f := modes.Play(set, comes, takes, until)
	if f != want || m.Runs != nil || m.Ends != nil || m.Turned != 0 {
		t.Errorf("Play, %s: %.300s %v, want %v", what, fmt.Sprint(m), f, want)
	}
}

// wantBad: does each call tell what Check says of a set, whatever else is wrong?
func wantBad(t *testing.T, what string, set []api.Crit, want api.Fault) {
	t.Helper()
	wantCheck(t, what, set, want)
	wantNoResponses(t, what, set, want)
	wantNoPlay(t, what, set, nil, nil, 5, want)
	wantNoPlay(t, what, set, comes(0, 0), ints(1), 5, want)
	wantNoPlay(t, what, set, comes(-1, 0), ints(1), 5, want)
	wantNoPlay(t, what, set, comes(0, -1), ints(0), 5, want)
	wantNoPlay(t, what, set, comes(0, 0), ints(1), -1, want)
	wantNoPlay(t, what, set, comes(0, 0), nil, 5, want)
	wantNoPlay(t, what, set, make([]api.Come, api.MaxJobs+1), make([]int, api.MaxJobs+1), -1, want)
}

func wantFrame(t *testing.T, what string, length int, windows []api.Window, want api.Fault) {
	t.Helper()
	if got := modes.Frame(length, windows); got != want {
		t.Errorf("Frame, %s: %v, want %v (%d %v)", what, got, want, length, windows)
	}
}

func wantOpen(t *testing.T, what string, length int, windows []api.Window, at int, want bool) {
	t.Helper()
	if got := modes.Open(length, windows, at); got != want {
		t.Errorf("Open, %s, at %d: %v (%d %v)", what, at, got, length, windows)
	}
}

func wantSupply(t *testing.T, what string, length int, windows []api.Window, from, ticks, want int, f api.Fault) {
	t.Helper()
	if got, g := modes.Supply(length, windows, from, ticks); got != want || g != f {
		t.Errorf("Supply, %s, from %d on, %d ticks: %d %v, want %d %v (%d %v)", what, from, ticks, got, g, want, f, length, windows)
	}
}

func wantLeast(t *testing.T, what string, length int, windows []api.Window, ticks, want int, f api.Fault) {
	t.Helper()
	if got, g := modes.Least(length, windows, ticks); got != want || g != f {
		t.Errorf("Least, %s, of %d ticks: %d %v, want %d %v (%d %v)", what, ticks, got, g, want, f, length, windows)
	}
}

func wantWithin(t *testing.T, what string, set []api.Task, i, length int, windows []api.Window, want int, f api.Fault) {
	t.Helper()
	if got, g := modes.Within(set, i, length, windows); got != want || g != f {
		t.Errorf("Within, %s, of %d: %d %v, want %d %v (%v %d %v)", what, i, got, g, want, f, set, length, windows)
	}
}

// wantHosted: is it played just so, in as many ticks as are wanted?
func wantHosted(t *testing.T, what string, jobs []api.Job, length int, windows []api.Window, ran, ends []int) {
	t.Helper()
	p, f := modes.Hosted(jobs, length, windows, len(ran))
	if f != (api.Fault{}) || !slices.Equal(p.Runs, ran) || !slices.Equal(p.Ends, ends) {
		t.Errorf("Hosted, %s: %.300s %v, want %.300s %.300s (%.300s %d %v)", what, fmt.Sprint(p), f,
			fmt.Sprint(ran), fmt.Sprint(ends), fmt.Sprint(jobs), length, windows)
	}
}

func wantNoHosted(t *testing.T, what string, jobs []api.Job, length int, windows []api.Window, until int, want api.Fault) {
	t.Helper()
	p, f := modes.Hosted(jobs, length, windows, until)
	if f != want || p.Runs != nil || p.Ends != nil {
		t.Errorf("Hosted, %s: %.300s %v, want %v (%d %v)", what, fmt.Sprint(p), f, want, length, windows)
	}
}

// wantBadFrame: does each call tell what Frame says, whatever else is wrong behind it?
func wantBadFrame(t *testing.T, what string, length int, windows []api.Window, want api.Fault) {
	t.Helper()
	wantFrame(t, what, length, windows, want)
	for _, n := range []int{-1, 0, 1, 5, api.MaxUntil, api.MaxUntil + 1} {
		wantOpen(t, what, length, windows, n, false)
		wantSupply(t, what, length, windows, n, 3, 0, want)
		wantSupply(t, what, length, windows, 3, n, 0, want)
		wantLeast(t, what, length, windows, n, 0, want)
		wantNoHosted(t, what, jobs(by(1, 0, 1)), length, windows, n, want)
		wantNoHosted(t, what, jobs(by(1, -1, 0)), length, windows, n, want)
	}
	wantNoHosted(t, what, many(api.MaxJobs+1), length, windows, 5, want)
	wantWithin(t, what, named(task(1, 10000, 1)), 0, length, windows, 0, want)
	// There would be none, either.
	wantWithin(t, what, named(task(1, 1, 1)), 0, length, windows, 0, want)
}

// otherCheck is P13.1 in another way: each thing that may be wrong is looked for alone.
func otherCheck(set []api.Crit) api.Fault {
	if len(set) == 0 || len(set) >= 9 {
		return fault(api.ErrMany, 0)
	}
	for i, t := range set {
		for _, bad := range []bool{t.C <= 0, t.H-t.C < 0, t.T <= 0, t.T >= 10001, t.D-t.C < 0, t.P <= -1, t.P >= 1001} {
			if bad {
				return fault(api.ErrRange, i)
			}
		}
		for _, bad := range []bool{t.T-t.D < 0, t.D-t.H < 0, !t.High && t.H > t.C} {
			if bad {
				return fault(api.ErrOrder, i)
			}
		}
		for k := range i {
			if set[k].P == t.P {
				return fault(api.ErrTwice, i)
			}
		}
	}
	return api.Fault{}
}

// often is how often one that comes every so many ticks comes in w ticks.
func often(w, every int) int {
	n := 0
	for at := 0; at < w; at += every {
		n++
	}
	return n
}

// otherResponses is P13.2 word by word, of a set that nothing is wrong with: each w and v is tried, from the least one on.
func otherResponses(set []api.Crit) (well, ill []int, f api.Fault) {
	for i, t := range set {
		w := 0
		for n := 1; n <= t.D && w == 0; n++ {
			asked := t.C
			for _, o := range set {
				if o.P > t.P {
					asked += often(n, o.T) * o.C
				}
			}
			if asked == n {
				w = n
			}
		}
		v := 0
		for n := 1; t.High && n <= t.D && v == 0; n++ {
			asked := t.H
			for _, o := range set {
				switch {
				case o.P > t.P && o.High:
					asked += often(n, o.T) * o.H
				case o.P > t.P:
					asked += often(w, o.T) * o.C
				}
			}
			if asked == n {
				v = n
			}
		}
		if w == 0 || t.High && v == 0 {
			return nil, nil, fault(api.ErrNone, i)
		}
		well, ill = append(well, w), append(ill, v)
	}
	return well, ill, api.Fault{}
}

// seen counts what happened in what was played.
type seen struct {
	turned, last int // the mode turned; at until
	just         int // a high one was done with just C ticks, where it might have taken more
	begun        int // one that isn't high had begun when the mode turned
	waits        int // one that isn't high was there and hadn't begun when the mode turned
	behind       int // one that isn't high came just at, or behind, the turn
	again        int // a second one took more than C
}

// otherPlay is P13.3 word by word, of what nothing is wrong with: in each tick all lists are gone through, and what was done is counted anew in who ran.
func (s *seen) otherPlay(set []api.Crit, comes []api.Come, takes []int, until int) (ran, ends []int, turned int) {
	turned = -1
	ends = none(len(comes))
	for now := range until {
		first := -1
		for i, c := range comes {
			if c.At > now || ends[i] >= 0 || turned >= 0 && !set[c.Task].High {
				continue
			}
			if first < 0 {
				first = i
				continue
			}
			mine, its := set[c.Task].P, set[comes[first].Task].P
			if mine > its || mine == its && c.At < comes[first].At {
				first = i
			}
		}
		ran = append(ran, first)
		if first < 0 {
			continue
		}
		n := count(ran, first)
		if n == takes[first] {
			ends[first] = now + 1
		}
		if t := set[comes[first].Task]; t.High && n == t.C && ends[first] < 0 {
			if turned < 0 {
				turned = now + 1
				s.turn(set, comes, ran, ends)
			} else {
				s.again++
			}
		} else if n == t.C && t.H > t.C {
			s.just++
		}
	}
	return ran, ends, turned
}

// turn counts what was there when the mode turned, behind those ticks.
func (s *seen) turn(set []api.Crit, comes []api.Come, ran, ends []int) {
	s.turned++
	for i, c := range comes {
		switch {
		case set[c.Task].High || ends[i] >= 0:
		case c.At >= len(ran):
			s.behind++
		case slices.Contains(ran, i):
			s.begun++
		default:
			s.waits++
		}
	}
}

// count is how often n is in a list.
func count(l []int, n int) int {
	times := 0
	for _, m := range l {
		if m == n {
			times++
		}
	}
	return times
}

// otherFrame is P13.5 in another way.
func otherFrame(length int, windows []api.Window) api.Fault {
	if length <= 0 || length >= 10001 {
		return fault(api.ErrRange, 0)
	}
	if len(windows) >= 21 {
		return fault(api.ErrMany, 0)
	}
	for i, w := range windows {
		if w.At < 0 || w.At > length || w.Len <= 0 || w.At+w.Len > length {
			return fault(api.ErrRange, i)
		}
		if i > 0 && w.At < windows[i-1].At+windows[i-1].Len {
			return fault(api.ErrOrder, i)
		}
	}
	return api.Fault{}
}

// otherOpen writes down in which ticks ahead of until the core is there, of a frame that nothing is wrong with.
func otherOpen(length int, windows []api.Window, until int) []bool {
	there := make([]bool, until)
	for begin := 0; begin < until; begin += length {
		for _, w := range windows {
			for i := range w.Len {
				if t := begin + w.At + i; t < until {
					there[t] = true
				}
			}
		}
	}
	return there
}

// otherSupply is how many of some ticks hold.
func otherSupply(there []bool) int {
	n := 0
	for _, b := range there {
		if b {
			n++
		}
	}
	return n
}

// otherLeast is the least supply: each beginning in a frame is tried.
func otherLeast(length int, windows []api.Window, ticks int) int {
	there := otherOpen(length, windows, length+ticks)
	least := ticks
	for from := range length {
		least = min(least, otherSupply(there[from:from+ticks]))
	}
	return least
}

// otherWithin is P13.7 word by word, of what nothing is wrong with but that there may be none: each w is tried.
func otherWithin(set []api.Task, i, length int, windows []api.Window) (int, api.Fault) {
	own := set[i]
	for w := own.C; w <= own.D-own.J; w++ {
		asked := own.C
		for k, o := range set {
			if k != i && o.P >= own.P {
				asked += often(w+o.J, o.T) * o.C
			}
		}
		if otherLeast(length, windows, w) >= asked {
			return w + own.J, api.Fault{}
		}
	}
	return 0, fault(api.ErrNone, i)
}

// otherHosted is Hosted word by word, of what nothing is wrong with.
func otherHosted(jobs []api.Job, length int, windows []api.Window, until int) (ran, ends []int) {
	ends = none(len(jobs))
	there := otherOpen(length, windows, until)
	for now := range until {
		first := -1
		for i, j := range jobs {
			if j.At > now || ends[i] >= 0 || !there[now] {
				continue
			}
			if first < 0 || j.P > jobs[first].P || j.P == jobs[first].P && j.At < jobs[first].At {
				first = i
			}
		}
		ran = append(ran, first)
		if first >= 0 && count(ran, first) == jobs[first].C {
			ends[first] = now + 1
		}
	}
	return ran, ends
}

// maker makes sets, comings, frames and jobs, always the same ones from the same seed.
type maker struct{ *rand.Rand }

func newMaker(seed int64) maker { return maker{rand.New(rand.NewSource(seed))} }

// one is one of some numbers.
func (m maker) one(l ...int) int { return l[m.Intn(len(l))] }

// within is a number from least to most.
func (m maker) within(least, most int) int { return least + m.Intn(most-least+1) }

// crits are n tasks of two levels with periods up to most, which together use about share hundredths of the time where all is well.
func (m maker) crits(n, most, share int) []api.Crit {
	ps := m.Perm(n + 2)
	var set []api.Crit
	for i := range n {
		period := m.within(min(2, most), most)
		c := min(period, max(1, period*m.Intn(2*share+1)/(100*n)))
		d := m.one(period, m.within(c, period))
		t := low(c, period, d, ps[i])
		if m.Intn(5) < 3 {
			t = high(c, m.within(c, min(d, 3*c+1)), period, d, ps[i])
		}
		set = append(set, t)
	}
	return set
}

// takes is of each come how long it takes: mostly C, now and then less, and of one that may be ill now and then more.
func (m maker) takes(set []api.Crit, comes []api.Come) []int {
	ill := m.one(0, 3, 10, 30)
	var l []int
	for _, c := range comes {
		t := set[c.Task]
		n := t.C
		switch {
		case ill > 0 && m.Intn(ill) == 0:
			n = m.one(t.H, m.within(t.C, t.H))
		case m.Intn(6) == 0:
			n = m.within(1, t.C)
		}
		l = append(l, n)
	}
	return l
}

// times are when those come that come every so many ticks at most, ahead of until: as soon as they may, or now and then later; at one time in any order.
func (m maker) times(every []int, until int) []api.Come {
	lazy := m.one(0, 0, 4, 20)
	next := make([]int, len(every))
	for i, t := range every {
		next[i] = m.one(0, m.Intn(t), m.Intn(1+lazy))
	}
	return m.follow(every, next, lazy, until)
}

// follow lets those come first at next, and then so often.
func (m maker) follow(every, next []int, lazy, until int) []api.Come {
	var comes []api.Come
	for now := range until {
		for _, i := range m.Perm(len(every)) {
			if now == next[i] {
				comes = append(comes, api.Come{Task: i, At: now})
				next[i] += every[i] + m.Intn(1+lazy)
			}
		}
	}
	return comes
}

// frame is a frame of at most so many ticks, with up to n windows.
func (m maker) frame(most, n int) (int, []api.Window) {
	length := m.within(1, most)
	var l []api.Window
	for at := m.Intn(length + 1); at < length && len(l) < n; {
		w := api.Window{At: at, Len: m.within(1, min(length-at, m.one(1, 3, length)))}
		l = append(l, w)
		at += w.Len + m.one(0, 1, m.Intn(4))
	}
	return length, l
}

// tasks are n tasks with periods up to most, which together use about share hundredths of the time; no D is above its T, some J aren't 0, and some P are the same.
func (m maker) tasks(n, most, share int) []api.Task {
	var set []api.Task
	for range n {
		period := m.within(min(2, most), most)
		c := min(period, max(1, period*m.Intn(2*share+1)/(100*n)))
		t := api.Task{C: c, T: period, D: m.one(period, period, m.within(c, period)), P: m.Intn(n + 2)}
		if m.Intn(3) == 0 {
			t.J = m.Intn(t.D/2 + 1)
		}
		set = append(set, t)
	}
	return named(set...)
}
