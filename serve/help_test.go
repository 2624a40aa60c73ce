package serve_test

import (
	"fmt"
	"math/big"
	"math/rand"
	"slices"
	"testing"

	"punctual/api"
	"punctual/serve"
)

const (
	lastAt  = 3 * api.MaxUntil
	lastDue = 4 * api.MaxUntil
)

func fault(code api.Errno, at int) api.Fault { return api.Fault{Code: code, At: at} }

func polling(q, p int) api.Server    { return api.Server{Kind: api.Polling, Q: q, P: p} }
func deferrable(q, p int) api.Server { return api.Server{Kind: api.Deferrable, Q: q, P: p} }
func constant(q, p int) api.Server   { return api.Server{Kind: api.Constant, Q: q, P: p} }

// kinds are all three.
func kinds() []int { return []int{api.Polling, api.Deferrable, api.Constant} }

// by is a job with a priority that is due late.
func by(p, at, c int) api.Job { return api.Job{At: at, C: c, Due: 1000, P: p} }

// due is a job that is due at a time, whose priority is greater than any server's.
func due(at, c, due int) api.Job { return api.Job{At: at, C: c, Due: due, P: 5000} }

// soft is what comes to a server: pairs of At and C.
func soft(l ...int) []api.Job {
	var jobs []api.Job
	for i := 0; i < len(l); i += 2 {
		jobs = append(jobs, api.Job{At: l[i], C: l[i+1]})
	}
	return jobs
}

// task is one whose D is its T.
func task(c, t, p int) api.Task { return api.Task{C: c, T: t, D: t, P: p} }

// till is one with a D of its own.
func till(c, t, d, p int) api.Task { return api.Task{C: c, T: t, D: d, P: p} }

// named gives tasks the names a, b, c and so on.
func named(l ...api.Task) []api.Task {
	set := slices.Clone(l)
	for i := range set {
		set[i].Name = string(rune('a' + i))
	}
	return set
}

// several are n tasks that are in time with much to spare.
func several(n int) []api.Task {
	var set []api.Task
	for i := range n {
		set = append(set, task(1, 1000+i, 100-i))
	}
	return named(set...)
}

// changed is a copy of a set of which one task is changed.
func changed(set []api.Task, i int, change func(t *api.Task)) []api.Task {
	set = slices.Clone(set)
	change(&set[i])
	return set
}

// many are n jobs that nothing is wrong with, in order.
func many(n int) []api.Job {
	jobs := make([]api.Job, n)
	for i := range jobs {
		jobs[i] = api.Job{Task: i, At: i, C: 1 + i%7, Due: i + 20, P: i % 11}
	}
	return jobs
}

// none are n times -1.
func none(n int) []int { return slices.Repeat([]int{-1}, n) }

// runs writes down who ran: each number so many times as the one behind it says.
func runs(l ...int) []int {
	var all []int
	for i := 0; i < len(l); i += 2 {
		all = append(all, slices.Repeat(l[i:i+1], l[i+1])...)
	}
	return all
}

func ints(l ...int) []int { return l }

func wantCheck(t *testing.T, what string, s api.Server, want api.Fault) {
	t.Helper()
	if got := serve.Check(s); got != want {
		t.Errorf("Check, %s: %v, want %v (%v)", what, got, want, s)
	}
}

func wantAdmits(t *testing.T, what string, set []api.Task, s api.Server, p int, want api.Fault) {
	t.Helper()
	if got := serve.Admits(set, s, p); got != want {
		t.Errorf("Admits, %s: %v, want %v (%v %v %d)", what, got, want, set, s, p)
	}
}

func wantNoPlay(t *testing.T, what string, jobs []api.Job, s api.Server, p int, soft []api.Job, until int, want api.Fault) {
	t.Helper()
	played, ends, f := serve.Play(jobs, s, p, soft, until)
	if f != want || played.Runs != nil || played.Ends != nil || ends != nil {
		t.Errorf("Play, %s: %.300s %v, want %v", what, fmt.Sprint(played, ends), f, want)
	}
}

// wantPlay: is it played just so, in as many ticks as are wanted?
func wantPlay(t *testing.T, what string, jobs []api.Job, s api.Server, p int, soft []api.Job, ran, ends, served []int) {
	t.Helper()
	played, got, f := serve.Play(jobs, s, p, soft, len(ran))
	if f != (api.Fault{}) || !slices.Equal(played.Runs, ran) || !slices.Equal(played.Ends, ends) || !slices.Equal(got, served) {
		t.Errorf("Play, %s: %.300s %.300s %v, want %.300s %.300s %.300s (%.300s %v %d %.300s)", what, fmt.Sprint(played), fmt.Sprint(got), f,
			fmt.Sprint(ran), fmt.Sprint(ends), fmt.Sprint(served), fmt.Sprint(jobs), s, p, fmt.Sprint(soft))
	}
}

// otherCheck is P12.1 in another way.
func otherCheck(s api.Server) api.Fault {
	if !slices.Contains(kinds(), s.Kind) {
		return fault(api.ErrOp, 0)
	}
	if s.Q <= 0 || s.P-s.Q < 0 || s.P >= 10001 {
		return fault(api.ErrRange, 0)
	}
	return api.Fault{}
}

// otherAdmits is P12.2 word by word, of a set, a server and a p that nothing is wrong with.
func otherAdmits(set []api.Task, s api.Server, p int) api.Fault {
	if s.Kind == api.Constant {
		for i, t := range set {
			if t.J > 0 {
				return fault(api.ErrOrder, i)
			}
		}
		if !otherShare(set, s) {
			return fault(api.ErrNone, 0)
		}
		return api.Fault{}
	}
	more := api.Task{C: s.Q, T: s.P, D: s.P, P: p}
	if s.Kind == api.Deferrable {
		more.J = s.P - s.Q
	}
	for i, t := range set {
		if t.D > t.T {
			return fault(api.ErrOrder, i)
		}
	}
	for i := range set {
		if !otherInTime(append(slices.Clip(set), more), i) {
			return fault(api.ErrNone, i)
		}
	}
	return api.Fault{}
}

// otherShare: do all use at most 1 together? In whole numbers, with the product of all that stands below.
func otherShare(set []api.Task, s api.Server) bool {
	whole := big.NewInt(int64(s.P))
	for _, t := range set {
		whole.Mul(whole, big.NewInt(int64(min(t.T, t.D))))
	}
	used := new(big.Int)
	add := func(a, b int) {
		part := new(big.Int).Div(whole, big.NewInt(int64(b)))
		used.Add(used, part.Mul(part, big.NewInt(int64(a))))
	}
	add(s.Q, s.P)
	for _, t := range set {
		add(t.C, min(t.T, t.D))
	}
	return used.Cmp(whole) <= 0
}

// otherInTime: has task i a Response? Each w is tried, from the least one on.
func otherInTime(set []api.Task, i int) bool {
	for w := 1; w+set[i].J <= set[i].D; w++ {
		asked := set[i].C
		for k, o := range set {
			if k == i || o.P < set[i].P {
				continue
			}
			for at := -o.J; at < w && asked <= w; at += o.T {
				asked += o.C
			}
		}
		if asked == w {
			return true
		}
	}
	return false
}

// seen counts what happened to servers that were played.
type seen struct {
	below, equal, above int // Constant: how its time lies to what is left when something comes, and it had run ahead of that
	again               int // Constant: its time was used up
	some, nothing       int // Polling: at a multiple of P something is there, or not
	ended               int // Polling: nothing more was there, though it had time
	kept                int // Deferrable: it had time left at a multiple of P
	spent               int // something is there, but it has no time
	tie, tieDue         int // p is just the P of the one that goes first, due just its Due
	behind              int // it can run, but a job goes ahead of it
}

// otherPlay is P12.3 word by word, of what nothing is wrong with: in each tick all lists are gone through, and what was done is counted anew in who ran.
func (s *seen) otherPlay(jobs []api.Job, v api.Server, p int, soft []api.Job, until int) (api.Played, []int) {
	out, served := api.Played{Ends: none(len(jobs))}, none(len(soft))
	time, due := 0, 0
	next := func(now int) int { // the first of soft that is there, or -1
		for i, j := range soft {
			if j.At <= now && served[i] < 0 {
				return i
			}
		}
		return -1
	}
	for now := range until {
		comes := slices.ContainsFunc(soft, func(j api.Job) bool { return j.At == now })
		if v.Kind == api.Constant && comes && next(now-1) < 0 {
			s.woken(time*v.P-(due-now)*v.Q, due)
			if !(time*v.P < (due-now)*v.Q) {
				time, due = v.Q, now+v.P
			}
		}
		if v.Kind != api.Constant && now%v.P == 0 {
			s.filled(v, time, next(now))
			time = v.Q
			if v.Kind == api.Polling && next(now) < 0 {
				time = 0
			}
		}
		first := otherFirst(jobs, out.Ends, v.Kind == api.Constant, now)
		if s.otherGoes(jobs, v, p, first, next(now), time, due) {
			out.Runs = append(out.Runs, -2)
			i, all := next(now), 0
			for _, j := range soft[:i+1] {
				all += j.C
			}
			if count(out.Runs, -2) == all {
				served[i] = now + 1
			}
			time--
			switch {
			case v.Kind == api.Constant && time == 0:
				time, due = v.Q, due+v.P
				s.again++
			case v.Kind == api.Polling && next(now) < 0:
				if time > 0 {
					s.ended++
				}
				time = 0
			}
			continue
		}
		out.Runs = append(out.Runs, first)
		if first >= 0 && count(out.Runs, first) == jobs[first].C {
			out.Ends[first] = now + 1
		}
	}
	return out, served
}

// otherGoes: does the server run?
func (s *seen) otherGoes(jobs []api.Job, v api.Server, p, first, next, time, due int) bool {
	if next < 0 {
		return false
	}
	if time <= 0 {
		s.spent++
		return false
	}
	if first < 0 {
		return true
	}
	job, goes := jobs[first], false
	if v.Kind == api.Constant {
		goes = due < job.Due
		if due == job.Due {
			s.tieDue++
		}
	} else {
		goes = p > job.P
		if p == job.P {
			s.tie++
		}
	}
	if !goes {
		s.behind++
	}
	return goes
}

func (s *seen) woken(more, due int) {
	switch {
	case due == 0:
	case more < 0:
		s.below++
	case more == 0:
		s.equal++
	default:
		s.above++
	}
}

func (s *seen) filled(v api.Server, time, next int) {
	switch {
	case v.Kind == api.Polling && next >= 0:
		s.some++
	case v.Kind == api.Polling:
		s.nothing++
	case time > 0:
		s.kept++
	}
}

// otherFirst is who goes first of the jobs that are there, or -1.
func otherFirst(jobs []api.Job, ends []int, earliest bool, now int) int {
	first := -1
	for i, j := range jobs {
		if j.At > now || ends[i] >= 0 {
			continue
		}
		if first < 0 {
			first = i
			continue
		}
		f := jobs[first]
		switch {
		case earliest && j.Due != f.Due:
			if j.Due < f.Due {
				first = i
			}
		case !earliest && j.P != f.P:
			if j.P > f.P {
				first = i
			}
		case j.At < f.At:
			first = i
		}
	}
	return first
}

// count is how often n is in a list.
func count(l []int, n int) int {
	times := 0
	for _, m := range l {
		if m == n {
			times++
		}
	}
	return times
}

// maker makes sets, jobs and what comes to servers, always the same ones from the same seed.
type maker struct{ *rand.Rand }

func newMaker(seed int64) maker { return maker{rand.New(rand.NewSource(seed))} }

// one is one of some numbers.
func (m maker) one(l ...int) int { return l[m.Intn(len(l))] }

// within is a number from least to most.
func (m maker) within(least, most int) int { return least + m.Intn(most-least+1) }

// server is one whose P is at most most.
func (m maker) server(kind, most int) api.Server {
	p := m.within(1, most)
	return api.Server{Kind: kind, Q: m.within(1, max(1, p*m.within(1, 4)/4)), P: p}
}

// jobs are up to n jobs that come ahead of until.
func (m maker) jobs(n, until int) []api.Job {
	jobs := make([]api.Job, m.Intn(n+1))
	for i := range jobs {
		at := m.Intn(until)
		jobs[i] = api.Job{Task: m.Intn(5) - 2, At: at, C: m.within(1, 4), Due: at + m.Intn(12), P: m.within(-1, 6)}
	}
	return jobs
}

// soft are up to n that come to a server, in order.
func (m maker) soft(n, until, most int) []api.Job {
	jobs := make([]api.Job, m.Intn(n+1))
	for i := range jobs {
		jobs[i] = api.Job{Task: m.Intn(5) - 2, At: m.Intn(until), C: m.within(1, most), Due: m.Intn(20), P: m.within(-1, 6)}
	}
	slices.SortStableFunc(jobs, func(a, b api.Job) int { return a.At - b.At })
	return jobs
}

// set is one of n tasks with periods up to most, which together use about share hundredths of the time; no D is above its T, and some P are the same.
func (m maker) set(n, most, share int) []api.Task {
	var set []api.Task
	for range n {
		period := m.within(min(2, most), most)
		c := min(period, max(1, period*m.Intn(2*share+1)/(100*n)))
		set = append(set, api.Task{C: c, T: period, D: m.within(c, period), P: m.Intn(n + 2)})
		if m.Intn(2) == 0 {
			set[len(set)-1].D = period
		}
	}
	return named(set...)
}
