package kernel_test

import (
	"fmt"
	"slices"
	"strconv"
	"strings"
	"testing"

	"punctual/api"
	"punctual/kernel"
	"punctual/mach"
)

func fault(code api.Errno, at int) api.Fault { return api.Fault{Code: code, At: at} }

func ints(l ...int) []int { return l }

// image reads instructions: a word each, and its numbers; commas between them.
func image(text string) []api.Ins {
	words := strings.Fields("- push load store add sub mul less same in out jump skip count again stop lock unlock work")
	var l []api.Ins
	for _, part := range strings.FieldsFunc(text, func(r rune) bool { return r == ',' }) {
		fields := append(strings.Fields(part), "0", "0")
		op := slices.Index(words, fields[0])
		a, wrongA := strconv.Atoi(fields[1])
		b, wrongB := strconv.Atoi(fields[2])
		if op < 1 || wrongA != nil || wrongB != nil || len(fields) > 5 {
			panic("not an instruction: " + part)
		}
		l = append(l, api.Ins{Op: op, A: a, B: b})
	}
	return l
}

// loaded is a task whose D is its T.
func loaded(name string, c, t, p int, text string) api.Loaded {
	return api.Loaded{Task: api.Task{Name: name, C: c, T: t, D: t, P: p}, Image: image(text)}
}

func loads(l ...api.Loaded) []api.Loaded { return l }

// due is a task with another D.
func due(d int, x api.Loaded) api.Loaded {
	x.Task.D = d
	return x
}

// several are n tasks that nothing is wrong with, and that are admitted.
func several(n int) []api.Loaded {
	var l []api.Loaded
	for i := range n {
		l = append(l, loaded(string(rune('a'+i)), 5, 500+i, n-i, "work 2, lock 1, work 1, unlock 1"))
	}
	return l
}

// come are comings: of each a task, and when.
func come(l ...int) []api.Come {
	var all []api.Come
	for i := 0; i < len(l); i += 2 {
		all = append(all, api.Come{Task: l[i], At: l[i+1]})
	}
	return all
}

// kinds are the words for the kinds of events.
func kinds() []string { return strings.Fields("- come run done kill late put") }

// events reads a log: the words of each event, commas between.
func events(text string) []api.Event {
	var log []api.Event
	for _, part := range strings.FieldsFunc(text, func(r rune) bool { return r == ',' }) {
		var e api.Event
		var word string
		_, err := fmt.Sscan(part, &e.At, &word, &e.Task, &e.N)
		if word == "put" {
			_, err = fmt.Sscan(part, &e.At, &word, &e.Task, &e.M, &e.N)
		}
		e.Kind = slices.Index(kinds(), word)
		if err != nil || e.Kind < 1 {
			panic("not an event: " + part)
		}
		log = append(log, e)
	}
	return log
}

// written writes a log of which all events have a kind.
func written(log []api.Event) string {
	text := ""
	for _, e := range log {
		if e.Kind == api.EvPut {
			text += fmt.Sprintf("%d put %d %d %d\n", e.At, e.Task, e.M, e.N)
			continue
		}
		text += fmt.Sprintf("%d %s %d %d\n", e.At, kinds()[e.Kind], e.Task, e.N)
	}
	return text
}

// wantCheck: does Check say so, and, if something is wrong, Admit, Run and Replays, too, whatever else is wrong with what they are given?
func wantCheck(t *testing.T, what string, l []api.Loaded, want api.Fault) {
	t.Helper()
	if got := kernel.Check(l); got != want {
		t.Errorf("Check, %s: %v, want %v (%.300s)", what, got, want, fmt.Sprint(l))
	}
	if want.Code == api.OK {
		return
	}
	wantNoAdmit(t, what, l, want)
	for _, c := range [][]api.Come{nil, come(-1, 0), come(0, 9, 0, 3)} {
		for _, n := range []int{3, 4} {
			for _, until := range []int{-1, 10} {
				wantNoRun(t, what, l, c, make([]int, n), until, want)
			}
		}
	}
}

func wantAdmit(t *testing.T, what string, l []api.Loaded, want ...int) {
	t.Helper()
	if got, f := kernel.Admit(l); f != (api.Fault{}) || !slices.Equal(got, want) {
		t.Errorf("Admit, %s: %v %v, want %v (%.300s)", what, got, f, want, fmt.Sprint(l))
	}
}

func wantNoAdmit(t *testing.T, what string, l []api.Loaded, want api.Fault) {
	t.Helper()
	if got, f := kernel.Admit(l); f != want || got != nil {
		t.Errorf("Admit, %s: %v %v, want %v (%.300s)", what, got, f, want, fmt.Sprint(l))
	}
}

// wantRun: does just that happen, without inputs? It must be what the rules say word by word, too.
func wantRun(t *testing.T, what string, l []api.Loaded, comes []api.Come, until int, want string) {
	t.Helper()
	wantRunWith(t, what, l, comes, make([]int, 4), until, want)
}

func wantRunWith(t *testing.T, what string, l []api.Loaded, comes []api.Come, in []int, until int, want string) {
	t.Helper()
	log, f := kernel.Run(l, comes, in, until)
	if f != (api.Fault{}) || !slices.Equal(log, events(want)) {
		t.Errorf("Run, %s: %v\n%swant\n%s", what, f, written(log), written(events(want)))
	}
	if other := otherRun(l, comes, in, until); !slices.Equal(other, events(want)) {
		t.Errorf("otherRun, %s:\n%swant\n%s", what, written(other), written(events(want)))
	}
}

// wantNoRun: is that the fault, of Run and of Replays, and is there nothing beside it?
func wantNoRun(t *testing.T, what string, l []api.Loaded, comes []api.Come, in []int, until int, want api.Fault) {
	t.Helper()
	if log, f := kernel.Run(l, comes, in, until); f != want || log != nil {
		t.Errorf("Run, %s: %.300s %v, want %v", what, fmt.Sprint(log), f, want)
	}
	for _, log := range [][]api.Event{nil, make([]api.Event, 2)} {
		if ok, f := kernel.Replays(l, comes, in, until, log); f != want || ok {
			t.Errorf("Replays, %s: %v %v, want %v", what, ok, f, want)
		}
	}
}

// tick is a tick of an image: its instruction, whether it is that one's last, and what went out with it.
type tick struct {
	x    api.Ins
	last bool
	put  int
}

// ticks are the ticks of an image, up to most.
func ticks(image []api.Ins, in []int, most int) []tick {
	m, f := mach.New(image, make([]int, 8), in)
	if f != (api.Fault{}) {
		panic(fmt.Sprint(f))
	}
	var l []tick
	for !m.Done() && len(l) < most {
		before := len(m.Puts())
		x, last := m.Tick()
		one := tick{x: x, last: last}
		if puts := m.Puts(); len(puts) > before {
			one.put = puts[before].Value
		}
		l = append(l, one)
	}
	return l
}

// other is P16.3 word by word: all ticks of each task are known beforehand, and what a job holds is told anew each time by those that it has had.
type other struct {
	l     []api.Loaded
	comes []api.Come
	ticks [][]tick // of each task: one more than its C at most
	had   []int    // of each job
	over  []bool
	log   []api.Event
	seen
}

// seen counts what a run shows.
type seen struct {
	raised int // ticks in which one runs though one with a greater P is there
	stops  int // times that one runs on that was stopped
	empty  int // jobs with no instructions
	kills  int // jobs that are over without being done
	locked int // of these: while they hold a lock
	late   int
	puts   int
}

func (s *seen) add(o seen) {
	s.raised, s.stops, s.empty = s.raised+o.raised, s.stops+o.stops, s.empty+o.empty
	s.kills, s.locked, s.late, s.puts = s.kills+o.kills, s.locked+o.locked, s.late+o.late, s.puts+o.puts
}

func newOther(l []api.Loaded, comes []api.Come, in []int) *other {
	o := &other{l: l, comes: comes, had: make([]int, len(comes)), over: make([]bool, len(comes))}
	for _, t := range l {
		o.ticks = append(o.ticks, ticks(t.Image, in, t.Task.C+1))
	}
	return o
}

// otherRun is what happens, of what nothing is wrong with.
func otherRun(l []api.Loaded, comes []api.Come, in []int, until int) []api.Event {
	o := newOther(l, comes, in)
	o.run(until)
	return o.log
}

func (o *other) run(until int) {
	last := -1
	for now := 0; now <= until; now++ {
		for i, c := range o.comes {
			if c.At+o.l[c.Task].Task.D == now && !o.over[i] {
				o.tell(now, api.EvLate, i)
				o.late++
			}
		}
		if now == until {
			return
		}
		for i, c := range o.comes {
			if c.At == now {
				o.tell(now, api.EvCome, i)
			}
		}
		who := o.first(now)
		for who >= 0 && len(o.l[o.comes[who].Task].Image) == 0 {
			o.over[who] = true
			o.tell(now, api.EvDone, who)
			o.empty++
			who = o.first(now)
		}
		if who >= 0 && who != last {
			o.tell(now, api.EvRun, who)
			if o.had[who] > 0 {
				o.stops++
			}
		}
		if who >= 0 {
			o.tick(who, now)
		}
		last = who
	}
}

func (o *other) tell(at, kind, i int) {
	o.log = append(o.log, api.Event{At: at, Kind: kind, Task: o.comes[i].Task, N: i})
}

// holds: does a job hold a lock, by the ticks that it has had?
func (o *other) holds(i, lock int) bool {
	held := false
	for _, k := range o.ticks[o.comes[i].Task][:o.had[i]] {
		if k.last && k.x.A == lock && (k.x.Op == api.ILock || k.x.Op == api.IUnlock) {
			held = k.x.Op == api.ILock
		}
	}
	return held && !o.over[i]
}

// ceiling is the greatest P of those that take a lock.
func ceiling(l []api.Loaded, lock int) int {
	top := -1
	for _, t := range l {
		if slices.Contains(t.Image, api.Ins{Op: api.ILock, A: lock}) && t.Task.P > top {
			top = t.Task.P
		}
	}
	return top
}

func (o *other) active(i int) int {
	p := o.l[o.comes[i].Task].Task.P
	for lock := range 4 {
		if o.holds(i, lock) {
			p = max(p, ceiling(o.l, lock))
		}
	}
	return p
}

// first is the one that goes first, or -1.
func (o *other) first(now int) int {
	var there []int
	for i, c := range o.comes {
		if c.At <= now && !o.over[i] {
			there = append(there, i)
		}
	}
	if there == nil {
		return -1
	}
	most := -1
	for _, i := range there {
		most = max(most, o.active(i))
	}
	var best, begun []int
	for _, i := range there {
		if o.active(i) < most {
			continue
		}
		best = append(best, i)
		if o.had[i] > 0 {
			begun = append(begun, i)
		}
	}
	if begun != nil {
		best = begun
	}
	for _, i := range there {
		if o.l[o.comes[i].Task].Task.P > o.l[o.comes[best[0]].Task].Task.P {
			o.raised++
			break
		}
	}
	return best[0]
}

func (o *other) tick(i, now int) {
	task := o.comes[i].Task
	k := o.ticks[task][o.had[i]]
	o.had[i]++
	if k.last && k.x.Op == api.IOut {
		o.log = append(o.log, api.Event{At: now + 1, Kind: api.EvPut, Task: task, M: k.x.A, N: k.put})
		o.puts++
	}
	switch o.had[i] {
	case len(o.ticks[task]):
		o.over[i] = true
		o.tell(now+1, api.EvDone, i)
	case o.l[task].Task.C:
		for lock := range 4 {
			if o.holds(i, lock) {
				o.locked++
				break
			}
		}
		o.over[i] = true
		o.tell(now+1, api.EvKill, i)
		o.kills++
	}
}
