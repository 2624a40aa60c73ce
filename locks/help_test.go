package locks_test

import (
	"cmp"
	"fmt"
	"math/rand"
	"slices"
	"strconv"
	"strings"
	"testing"

	"punctual/api"
	"punctual/locks"
)

func fault(code api.Errno, at int) api.Fault { return api.Fault{Code: code, At: at} }

func work(n int) api.Act { return api.Act{Do: api.Work, N: n} }
func take(n int) api.Act { return api.Act{Do: api.Take, N: n} }
func give(n int) api.Act { return api.Act{Do: api.Give, N: n} }

// do reads acts: w, t or g, and N; any other letter is none of the three.
func do(text string) []api.Act {
	var l []api.Act
	for _, word := range strings.Fields(text) {
		n, err := strconv.Atoi(word[1:])
		if err != nil {
			panic("not an act: " + word)
		}
		kinds := map[byte]int{'w': api.Work, 't': api.Take, 'g': api.Give}
		l = append(l, api.Act{Do: kinds[word[0]], N: n})
	}
	return l
}

func job(at, p int, text string) api.Locked { return api.Locked{At: at, P: p, Acts: do(text)} }

// protocols are all three.
func protocols() []int { return []int{api.Plain, api.Inherit, api.Ceiling} }

// runs writes down who ran: each number so many times as the one behind it says.
func runs(l ...int) []int {
	var all []int
	for i := 0; i < len(l); i += 2 {
		all = append(all, slices.Repeat(l[i:i+1], l[i+1])...)
	}
	return all
}

func ints(l ...int) []int { return l }

func held(runs, ends, waits []int, stuck bool) locks.Held {
	return locks.Held{Played: api.Played{Runs: runs, Ends: ends}, Waits: waits, Stuck: stuck}
}

// sameHeld: was it played alike, whether lists with nothing in them are nil or not?
func sameHeld(a, b locks.Held) bool {
	return slices.Equal(a.Runs, b.Runs) && slices.Equal(a.Ends, b.Ends) && slices.Equal(a.Waits, b.Waits) && a.Stuck == b.Stuck
}

// nothing: is it zero?
func nothing(h locks.Held) bool {
	return h.Runs == nil && h.Ends == nil && h.Waits == nil && !h.Stuck
}

// wantCheck: does Check say so, and Longest, and of a job that has the acts Ceilings and Play?
func wantCheck(t *testing.T, what string, acts []api.Act, want api.Fault) {
	t.Helper()
	if got := locks.Check(acts); got != want {
		t.Errorf("Check, %s: %v, want %v (%.300s)", what, got, want, fmt.Sprint(acts))
	}
	n, f := locks.Longest(acts)
	if f != want || want.Code != api.OK && n != 0 {
		t.Errorf("Longest, %s: %d %v, want %v (%.300s)", what, n, f, want, fmt.Sprint(acts))
	}
	wantJobs(t, what, []api.Locked{{Acts: acts}}, fault(want.Code, 0))
}

// wantJobs: does Ceilings say so of jobs, and, if something is wrong, Play, too, whatever else is wrong with what it is given?
func wantJobs(t *testing.T, what string, jobs []api.Locked, want api.Fault) {
	t.Helper()
	if l, f := locks.Ceilings(jobs); f != want || want.Code != api.OK && l != nil {
		t.Errorf("Ceilings, %s: %v %v, want %v (%.300s)", what, l, f, want, fmt.Sprint(jobs))
	}
	if want.Code == api.OK {
		return
	}
	for _, protocol := range []int{api.Plain, api.Inherit, api.Ceiling, 0, 4, -1} {
		for _, until := range []int{0, 10, -1, api.MaxUntil + 1} {
			wantNoPlay(t, what, jobs, protocol, until, want)
		}
	}
}

func wantNoPlay(t *testing.T, what string, jobs []api.Locked, protocol, until int, want api.Fault) {
	t.Helper()
	if h, f := locks.Play(jobs, protocol, until); f != want || !nothing(h) {
		t.Errorf("Play, %s, by %d, until %d: %.300s %v, want %v", what, protocol, until, fmt.Sprint(h), f, want)
	}
}

// wantPlay: is it played just so, in as many ticks as are wanted?
func wantPlay(t *testing.T, what string, jobs []api.Locked, protocol int, want locks.Held) {
	t.Helper()
	h, f := locks.Play(jobs, protocol, len(want.Runs))
	if f != (api.Fault{}) || !sameHeld(h, want) {
		t.Errorf("Play, %s, by %d: %.300s %v, want %.300s (%.300s)", what, protocol, fmt.Sprint(h), f, fmt.Sprint(want), fmt.Sprint(jobs))
	}
}

// open are the locks that acts leave held, as they were taken: those behind whose Take no Give of them stands.
func open(acts []api.Act) []int {
	var l []int
	for i, a := range acts {
		if a.Do == api.Take && !slices.Contains(acts[i:], give(a.N)) {
			l = append(l, a.N)
		}
	}
	return l
}

// otherCheck is P11.1 in another way: what is held is told anew, ahead of each act, by all acts ahead of it.
func otherCheck(acts []api.Act) api.Fault {
	if len(acts) >= 201 {
		return fault(api.ErrMany, 0)
	}
	for i, a := range acts {
		l := append([]int{-7}, open(acts[:i])...)
		n := uint(a.N)
		switch {
		case a.Do < 1 || a.Do > 3:
			return fault(api.ErrOp, i)
		case a.Do == api.Work && n-1 >= 1000, a.Do == api.Take && n >= 4:
			return fault(api.ErrRange, i)
		case a.Do == api.Take && slices.Index(l, a.N) > 0:
			return fault(api.ErrTwice, i)
		case a.Do == api.Give && (len(l) == 1 || l[len(l)-1] != a.N):
			return fault(api.ErrLock, i)
		}
	}
	if open(acts) != nil {
		return fault(api.ErrLock, len(acts))
	}
	return api.Fault{}
}

// otherJobs is what P11.1 says of jobs, in another way.
func otherJobs(jobs []api.Locked) api.Fault {
	if len(jobs) >= 101 {
		return fault(api.ErrMany, 0)
	}
	for i, j := range jobs {
		if uint(j.At) > 20000 || uint(j.P) > 1000 {
			return fault(api.ErrRange, i)
		}
		if code := otherCheck(j.Acts).Code; code != api.OK {
			return fault(code, i)
		}
	}
	return api.Fault{}
}

// otherCeilings is P11.2 lock by lock.
func otherCeilings(jobs []api.Locked) []int {
	var l []int
	for lock := range 4 {
		most := -1
		for _, j := range jobs {
			if slices.Contains(j.Acts, take(lock)) && j.P > most {
				most = j.P
			}
		}
		l = append(l, most)
	}
	return l
}

// otherLongest is P11.2 in another way: of each Take at which nothing is held, the work up to the next Give behind which nothing is held.
func otherLongest(acts []api.Act) int {
	longest := 0
	for from, a := range acts {
		if a.Do != api.Take || open(acts[:from]) != nil {
			continue
		}
		ticks := 0
		for to := from; open(acts[:to+1]) != nil; to++ {
			if acts[to].Do == api.Work {
				ticks += acts[to].N
			}
		}
		longest = max(longest, ticks)
	}
	return longest
}

// place is where a job stands: how many acts it has ended, how many ticks it has worked since.
type place struct {
	ended, ticks int
	begun, waits bool
}

// other plays jobs word by word as P11.3 says: who holds what is told anew each time by the acts that were ended.
type other struct {
	jobs     []api.Locked
	at       []place
	protocol int
	locks.Held
}

func (o *other) holds(i, lock int) bool {
	return slices.Contains(open(o.jobs[i].Acts[:o.at[i].ended]), lock)
}

func (o *other) waitsFor(i, lock int) bool {
	return o.at[i].waits && o.jobs[i].Acts[o.at[i].ended] == take(lock)
}

// active are the active priorities: the rule is asked again of all as often as there are jobs, behind which nothing can change.
func (o *other) active() []int {
	var p []int
	for _, j := range o.jobs {
		p = append(p, j.P)
	}
	ceilings := otherCeilings(o.jobs)
	for range o.jobs {
		for i := range o.jobs {
			for lock := range 4 {
				if o.protocol == api.Plain || !o.holds(i, lock) {
					continue
				}
				if o.protocol == api.Ceiling {
					p[i] = max(p[i], ceilings[lock])
					continue
				}
				for k := range o.jobs {
					if o.waitsFor(k, lock) {
						p[i] = max(p[i], p[k])
					}
				}
			}
		}
	}
	return p
}

// first is the one that goes first, or -1.
func (o *other) first(now int) int {
	var l []int
	for i, j := range o.jobs {
		if j.At <= now && o.Ends[i] < 0 && !o.at[i].waits {
			l = append(l, i)
		}
	}
	if l == nil {
		return -1
	}
	active := o.active()
	return slices.MinFunc(l, func(a, b int) int {
		switch {
		case active[a] != active[b]:
			return active[b] - active[a]
		case o.at[a].begun && !o.at[b].begun:
			return -1
		case o.at[b].begun && !o.at[a].begun:
			return 1
		}
		return cmp.Or(o.jobs[a].At-o.jobs[b].At, a-b)
	})
}

// next lets one do what it does next; true if it works.
func (o *other) next(i, now int) bool {
	acts, at := o.jobs[i].Acts, &o.at[i]
	at.begun = true
	end := func(now int) {
		at.ended, at.ticks = at.ended+1, 0
		if at.ended == len(acts) {
			o.Ends[i] = now
		}
	}
	switch {
	case len(acts) == 0:
		o.Ends[i] = now
	case acts[at.ended].Do == api.Work:
		at.ticks++
		if at.ticks == acts[at.ended].N {
			end(now + 1)
		}
		return true
	case acts[at.ended].Do == api.Give:
		for k := range o.jobs {
			if o.waitsFor(k, acts[at.ended].N) {
				o.at[k].waits = false
			}
		}
		end(now)
	default:
		for k := range o.jobs {
			at.waits = at.waits || o.holds(k, acts[at.ended].N)
		}
		if !at.waits {
			end(now)
		}
	}
	return false
}

func otherPlay(jobs []api.Locked, protocol, until int) locks.Held {
	o := &other{jobs: jobs, at: make([]place, len(jobs)), protocol: protocol}
	o.Ends, o.Waits = runs(-1, len(jobs)), make([]int, len(jobs))
	for now := range until {
		who := o.first(now)
		for who >= 0 && !o.next(who, now) {
			who = o.first(now)
		}
		o.Runs = append(o.Runs, who)
		for i := range jobs {
			if o.at[i].waits {
				o.Waits[i]++
			}
		}
	}
	undone, waiting := 0, 0
	for i, j := range jobs {
		if j.At < until && o.Ends[i] < 0 {
			undone++
			if o.at[i].waits {
				waiting++
			}
		}
	}
	o.Stuck = undone > 0 && undone == waiting
	return o.Held
}

// maker makes jobs, always the same ones from the same seed.
type maker struct{ *rand.Rand }

func newMaker(seed int64) maker { return maker{rand.New(rand.NewSource(seed))} }

// one is one of some numbers.
func (m maker) one(l ...int) int { return l[m.Intn(len(l))] }

// acts are some acts that nothing is wrong with, of few locks.
func (m maker) acts(most, count int) []api.Act {
	var l []api.Act
	for range m.Intn(most + 1) {
		now, lock := open(l), m.Intn(count)
		switch m.Intn(8) {
		case 0, 1, 2, 3:
			l = append(l, work(1+m.Intn(3)))
		case 4, 5, 6:
			if !slices.Contains(now, lock) {
				l = append(l, take(lock))
			}
		default:
			if len(now) > 0 {
				l = append(l, give(now[len(now)-1]))
			}
		}
	}
	for now := open(l); len(now) > 0; now = open(l) {
		l = append(l, give(now[len(now)-1]))
	}
	return l
}

// jobs are up to most jobs that nothing is wrong with, which come within some ticks; mostly those that come later have a greater P, so that they go ahead of others that hold locks.
func (m maker) jobs(most, ticks int) []api.Locked {
	var l []api.Locked
	count, p, rise := m.one(1, 2, 2, 3, 4), m.one(1, 2, 4, 9), m.one(0, 1, 1, 2)
	for range m.Intn(most + 1) {
		at := m.Intn(ticks)
		l = append(l, api.Locked{At: at, P: rise*at/2 + m.Intn(p), Acts: m.acts(m.one(2, 8, 12), count)})
	}
	return l
}

// loose are acts of which nearly all may stand, one by one, but which needn't fit.
func (m maker) loose(most int) []api.Act {
	var l []api.Act
	for range m.Intn(most + 1) {
		switch m.Intn(9) {
		case 0, 1, 2:
			l = append(l, work(m.one(1, 2, 5, 999, 1000)))
		case 3, 4:
			l = append(l, take(m.Intn(4)))
		case 5, 6, 7:
			if now := open(l); now != nil {
				l = append(l, give(now[len(now)-1]))
			}
		default:
			l = append(l, api.Act{Do: m.one(1, 2, 2, 3, 3, 0, 4), N: m.one(0, 1, 2, 3, 4, -1, 1000, 1001)})
		}
	}
	return l
}

// shortActs are all lists of up to most acts, of one tick of work each and the first locks, that nothing is wrong with.
func shortActs(most, count int) [][]api.Act {
	all := []api.Act{work(1)}
	for lock := range count {
		all = append(all, take(lock), give(lock))
	}
	var good [][]api.Act
	var longer func(l []api.Act)
	longer = func(l []api.Act) {
		if otherCheck(l).Code == api.OK {
			good = append(good, l)
		}
		if len(l) < most {
			for _, a := range all {
				longer(append(slices.Clip(l), a))
			}
		}
	}
	longer(nil)
	return good
}

// eachShort goes through all lists of some jobs of the kinds that come one behind the other.
func eachShort(kinds []api.Locked, most int, see func(jobs []api.Locked)) {
	var longer func(l []api.Locked)
	longer = func(l []api.Locked) {
		see(l)
		if len(l) < most {
			for _, j := range kinds {
				longer(append(slices.Clip(l), j))
			}
		}
	}
	longer(nil)
}
