package mach_test

import (
	"fmt"
	"math/big"
	"math/rand"
	"slices"
	"testing"

	"punctual/api"
	"punctual/mach"
)

// Instructions in a short form.
func push(a int) api.Ins     { return api.Ins{Op: api.IPush, A: a} }
func load(a int) api.Ins     { return api.Ins{Op: api.ILoad, A: a} }
func store(a int) api.Ins    { return api.Ins{Op: api.IStore, A: a} }
func input(a int) api.Ins    { return api.Ins{Op: api.IIn, A: a} }
func out(a int) api.Ins      { return api.Ins{Op: api.IOut, A: a} }
func jump(a int) api.Ins     { return api.Ins{Op: api.IJump, A: a} }
func skip(a int) api.Ins     { return api.Ins{Op: api.ISkip, A: a} }
func count(a, b int) api.Ins { return api.Ins{Op: api.ICount, A: a, B: b} }
func again(a, b int) api.Ins { return api.Ins{Op: api.IAgain, A: a, B: b} }
func stop(a int) api.Ins     { return api.Ins{Op: api.IStop, A: a} }
func lock(a int) api.Ins     { return api.Ins{Op: api.ILock, A: a} }
func unlock(a int) api.Ins   { return api.Ins{Op: api.IUnlock, A: a} }
func work(a int) api.Ins     { return api.Ins{Op: api.IWork, A: a} }
func plain(op int) api.Ins   { return api.Ins{Op: op} }

func fault(code api.Errno, at int) api.Fault { return api.Fault{Code: code, At: at} }

func alike(a, b api.Ended) bool {
	return slices.Equal(a.Vars, b.Vars) && slices.Equal(a.Puts, b.Puts) && a.Steps == b.Steps
}

func wantCheck(t *testing.T, image []api.Ins, want api.Fault) {
	t.Helper()
	if got := mach.Check(image); got != want {
		t.Errorf("%.300s: %v, want %v", fmt.Sprint(image), got, want)
	}
}

// wantNothing: is that the fault, of New and of Run, and is there nothing beside it?
func wantNothing(t *testing.T, what string, image []api.Ins, vars, in []int, want api.Fault) {
	t.Helper()
	m, f := mach.New(image, vars, in)
	if m != nil || f != want {
		t.Errorf("New, %s: %v %v, want %v", what, m, f, want)
	}
	e, f := mach.Run(image, vars, in)
	if f != want || e.Vars != nil || e.Puts != nil || e.Steps != 0 {
		t.Errorf("Run, %s: %v %v, want %v", what, e, f, want)
	}
}

// start is a machine that there must be.
func start(t *testing.T, image []api.Ins, vars, in []int) *mach.Machine {
	t.Helper()
	m, f := mach.New(image, vars, in)
	if m == nil || f != (api.Fault{}) {
		t.Fatalf("%.300s: %v", fmt.Sprint(image), f)
	}
	return m
}

// otherCheck looks an image over in another way than package mach: it asks of each instruction anew what the chapter says, by all that stands ahead of it.
func otherCheck(image []api.Ins) api.Fault {
	if len(image) > 2000 {
		return fault(api.ErrMany, 0)
	}
	for _, wrong := range []func([]api.Ins, int) api.Errno{otherForm, otherNested, otherUnclosed, otherJump, otherHeight} {
		for at := range image {
			if code := wrong(image, at); code != api.OK {
				return fault(code, at)
			}
		}
	}
	for at := range image {
		if slices.Contains(otherWays(image, at), len(image)) && heightAt(image, at)+change(image[at]) != 0 {
			return fault(api.ErrStack, len(image))
		}
	}
	return api.Fault{}
}

func otherForm(image []api.Ins, at int) api.Errno {
	x := image[at]
	low, a, b := 0, 0, 0
	switch x.Op {
	case 1:
		a = 999999999
	case 2, 3, 15:
		a = 7
	case 4, 5, 6, 7, 8:
	case 9, 10, 16, 17:
		a = 3
	case 11, 12:
		a = 2000
	case 13:
		a, b = 7, 1000
	case 14:
		a, b = 7, 2000
	case 18:
		low, a = 1, 1000
	default:
		return api.ErrOp
	}
	if x.A < low || x.A > a || x.B < 0 || x.B > b {
		return api.ErrRange
	}
	return api.OK
}

// openAt are the numbers of those that have opened the regions that are open ahead of at: of what opens and closes, pairs that belong together are taken out as long as there are any.
func openAt(image []api.Ins, at int) []int {
	var open []int
	for i := range at {
		if slices.Contains([]int{api.ICount, api.IAgain, api.ILock, api.IUnlock}, image[i].Op) {
			open = append(open, i)
		}
	}
	for i := 0; i+1 < len(open); i++ {
		x, y := image[open[i]], image[open[i+1]]
		if y.Op == x.Op+1 && y.A == x.A && (x.Op == api.ICount || x.Op == api.ILock) {
			open = slices.Delete(open, i, i+2)
			i = -1
		}
	}
	return open
}

func otherNested(image []api.Ins, at int) api.Errno {
	x := image[at]
	open := openAt(image, at)
	has := func(op int) bool {
		return slices.ContainsFunc(open, func(i int) bool { return image[i].Op == op && image[i].A == x.A })
	}
	var last api.Ins
	if len(open) > 0 {
		last = image[open[len(open)-1]]
	}
	switch {
	case x.Op == api.ICount && has(api.ICount), x.Op == api.IStop && !has(api.ICount):
		return api.ErrLoop
	case x.Op == api.ILock && has(api.ILock):
		return api.ErrLock
	case x.Op == api.IAgain && (last.Op != api.ICount || last.A != x.A || x.B != open[len(open)-1]+1):
		return api.ErrLoop
	case x.Op == api.IUnlock && (last.Op != api.ILock || last.A != x.A):
		return api.ErrLock
	}
	return api.OK
}

// closing is the number of what closes the region that at opens; 0 if there is none.
func closing(image []api.Ins, at int) int {
	for i := at + 1; i < len(image); i++ {
		if image[i].Op == image[at].Op+1 && image[i].A == image[at].A {
			return i
		}
	}
	return 0
}

func otherUnclosed(image []api.Ins, at int) api.Errno {
	switch op := image[at].Op; {
	case op == api.ICount && closing(image, at) == 0:
		return api.ErrLoop
	case op == api.ILock && closing(image, at) == 0:
		return api.ErrLock
	}
	return api.OK
}

// inner is who opens the innermost region to which at belongs; -1 if there is none.
func inner(image []api.Ins, at int) int {
	for i := at - 1; i >= 0; i-- {
		if op := image[i].Op; (op == api.ICount || op == api.ILock) && closing(image, i) >= at {
			return i
		}
	}
	return -1
}

func otherJump(image []api.Ins, at int) api.Errno {
	x := image[at]
	if x.Op != api.IJump && x.Op != api.ISkip {
		return api.OK
	}
	if x.A <= at || x.A > len(image) || inner(image, x.A) != inner(image, at) {
		return api.ErrJump
	}
	return api.OK
}

func otherWays(image []api.Ins, at int) []int {
	x := image[at]
	switch x.Op {
	case api.IJump:
		return []int{x.A}
	case api.ISkip:
		return []int{at + 1, x.A}
	}
	return []int{at + 1}
}

func needs(x api.Ins) int {
	return map[int]int{3: 1, 10: 1, 12: 1, 4: 2, 5: 2, 6: 2, 7: 2, 8: 2}[x.Op]
}

func change(x api.Ins) int {
	return map[int]int{1: 1, 2: 1, 9: 1, 3: -1, 10: -1, 12: -1, 4: -1, 5: -1, 6: -1, 7: -1, 8: -1}[x.Op]
}

// leads are the numbers of those ahead of most that go on at to, loops that go back apart.
func leads(image []api.Ins, to, most int) []int {
	var l []int
	for i := range min(most, len(image)) {
		if slices.Contains(otherWays(image, i), to) {
			l = append(l, i)
		}
	}
	return l
}

// heightAt follows the first one that leads there, and the first one that leads to that, up to the beginning.
func heightAt(image []api.Ins, at int) int {
	h := 0
	for at > 0 {
		at = leads(image, at, at)[0]
		h += change(image[at])
	}
	return h
}

func otherHeight(image []api.Ins, at int) api.Errno {
	if at > 0 && len(leads(image, at, at)) == 0 {
		return api.ErrJump
	}
	x, h := image[at], heightAt(image, at)
	if needs(x) > h || h+change(x) > 20 {
		return api.ErrStack
	}
	for _, to := range otherWays(image, at) {
		for _, i := range leads(image, to, at) {
			if heightAt(image, i)+change(image[i]) != h+change(x) {
				return api.ErrStack
			}
		}
	}
	if x.Op == api.IAgain && heightAt(image, x.B) != h {
		return api.ErrStack
	}
	return api.OK
}

// other does an image in another way than package mach: it writes down all ticks beforehand; what goes round is cut to 64 bits out of numbers of any length.
type other struct {
	vars, in, stack []int
	counts          map[int]int
	puts            []api.Put
}

// tick is a tick, and how things stand behind it.
type tick struct {
	x    api.Ins
	last bool
	at   int
	vars []int
	puts []api.Put
}

// ticks are all ticks of at most 20000 instructions, and the number of the instruction that is next then.
func (o *other) ticks(image []api.Ins) ([]tick, int) {
	var l []tick
	at := 0
	for done := 0; done < 20000 && at < len(image); done++ {
		x := image[at]
		vars, puts := slices.Clone(o.vars), slices.Clip(o.puts)
		next, n := o.do(x, at)
		for range n - 1 {
			l = append(l, tick{x, false, at, vars, puts})
		}
		l = append(l, tick{x, true, next, slices.Clone(o.vars), slices.Clip(o.puts)})
		at = next
	}
	return l, at
}

func (o *other) take() int {
	n := o.stack[len(o.stack)-1]
	o.stack = o.stack[:len(o.stack)-1]
	return n
}

// do: at which number it goes on, and how many ticks it takes.
func (o *other) do(x api.Ins, at int) (int, int) {
	switch x.Op {
	case api.IPush:
		o.stack = append(o.stack, x.A)
	case api.ILoad:
		o.stack = append(o.stack, o.vars[x.A])
	case api.IStore:
		o.vars[x.A] = o.take()
	case api.IAdd, api.ISub, api.IMul, api.ILess, api.ISame:
		b, a := o.take(), o.take()
		o.stack = append(o.stack, both(x.Op, a, b))
		if x.Op == api.IMul {
			return at + 1, 3
		}
	case api.IIn:
		o.stack = append(o.stack, o.in[x.A])
		return at + 1, 2
	case api.IOut:
		o.puts = append(o.puts, api.Put{Port: x.A, Value: o.take()})
		return at + 1, 2
	case api.IJump:
		return x.A, 2
	case api.ISkip:
		if o.take() == 0 {
			return x.A, 2
		}
	case api.ICount:
		o.counts[x.A] = x.B
	case api.IAgain:
		if o.counts[x.A] != 0 {
			o.counts[x.A]--
			return x.B, 2
		}
	case api.IStop:
		delete(o.counts, x.A)
	case api.IWork:
		return at + 1, x.A
	}
	return at + 1, 1
}

func both(op, a, b int) int {
	x, y := big.NewInt(int64(a)), big.NewInt(int64(b))
	sign := x.Cmp(y)
	switch op {
	case api.IAdd:
		return wrapped(x.Add(x, y))
	case api.ISub:
		return wrapped(x.Sub(x, y))
	case api.IMul:
		return wrapped(x.Mul(x, y))
	case api.ILess:
		return max(0, -sign)
	}
	return 1 - sign*sign
}

// wrapped is the number of 64 bits that x becomes.
func wrapped(x *big.Int) int {
	round := new(big.Int).Lsh(big.NewInt(1), 64)
	x = new(big.Int).Mod(x, round)
	if x.Bit(63) == 1 {
		x.Sub(x, round)
	}
	return int(x.Int64())
}

// maker makes images that Check takes, always the same ones from the same seed.
type maker struct {
	*rand.Rand
	image []api.Ins
	high  int   // numbers on the stack
	open  []int // counters
	held  []int // locks
	times int   // how often a loop may go round
	left  int   // how many pieces may still be made
}

func (m *maker) add(x api.Ins) int {
	m.image = append(m.image, x)
	m.high += change(x)
	return len(m.image) - 1
}

func (m *maker) here(at int) { m.image[at].A = len(m.image) }

// value puts one number onto the stack.
func (m *maker) value(deep int) {
	switch kind := m.Intn(9); {
	case kind < 5 && deep > 0 && m.high < 15:
		m.value(deep - 1)
		m.value(deep - 1)
		m.add(plain(api.IAdd + kind))
	case kind == 5 && deep > 0:
		m.choice(deep)
	case kind == 6:
		m.add(input(m.Intn(4)))
	case kind == 7:
		m.add(push(m.Intn([]int{3, 1000000000}[m.Intn(2)])))
	default:
		m.add(load(m.Intn(8)))
	}
}

// choice puts one of two numbers onto the stack.
func (m *maker) choice(deep int) {
	m.value(deep - 1)
	elsewhere := m.add(skip(0))
	high := m.high
	m.value(deep - 1)
	behind := m.add(jump(0))
	m.here(elsewhere)
	m.high = high
	m.value(deep - 1)
	m.here(behind)
}

func (m *maker) pieces(deep int) {
	for n := m.Intn(5); n > 0 && m.left > 0; n-- {
		m.left--
		m.piece(deep)
	}
}

func (m *maker) piece(deep int) {
	kind := m.Intn(10)
	if deep == 0 {
		kind %= 5
	}
	switch kind {
	case 0:
		m.value(2)
		m.add(store(m.Intn(8)))
	case 1:
		m.value(2)
		m.add(out(m.Intn(4)))
	case 2:
		m.add(work(1 + m.Intn(8)))
	case 3:
		m.add(jump(len(m.image) + 1))
	case 4:
		if len(m.open) > 0 {
			m.add(stop(m.open[m.Intn(len(m.open))]))
		}
	case 5:
		m.value(1)
		at := m.add(skip(0))
		m.pieces(deep - 1)
		m.here(at)
	case 6:
		if m.high < 12 {
			m.value(1)
			m.pieces(deep - 1)
			m.add(store(m.Intn(8)))
		}
	case 7:
		m.locked(deep)
	default:
		m.loop(deep)
	}
}

func (m *maker) locked(deep int) {
	a := m.Intn(4)
	if slices.Contains(m.held, a) {
		return
	}
	m.held = append(m.held, a)
	m.add(lock(a))
	m.pieces(deep - 1)
	m.add(unlock(a))
	m.held = m.held[:len(m.held)-1]
}

func (m *maker) loop(deep int) {
	a := m.Intn(8)
	if slices.Contains(m.open, a) {
		return
	}
	m.open = append(m.open, a)
	begin := m.add(count(a, m.Intn(m.times))) + 1
	if m.Intn(2) == 0 {
		m.value(1)
		at := m.add(skip(0))
		m.pieces(deep - 1)
		behind := m.add(jump(0))
		m.here(at)
		m.add(stop(a))
		m.here(behind)
	} else {
		m.pieces(deep - 1)
	}
	m.add(again(a, begin))
	m.open = m.open[:len(m.open)-1]
}

// made is an image with what it begins with.
func made(seed int64) (image []api.Ins, vars, in []int) {
	m := &maker{Rand: rand.New(rand.NewSource(seed)), times: []int{3, 12, 60}[seed%3]}
	for len(m.image) == 0 {
		m.left = 1 + int(seed%40)
		m.pieces(5)
	}
	return m.image, m.numbers(8), m.numbers(4)
}

// numbers are n numbers, small ones and some of 64 bits.
func (m *maker) numbers(n int) []int {
	l := make([]int, n)
	for i := range l {
		l[i] = []int{m.Intn(5) - 2, int(m.Uint64())}[m.Intn(2)]
	}
	return l
}

// spoilt is an image that was changed in one or two places.
func spoilt(r *rand.Rand, image []api.Ins) []api.Ins {
	l := slices.Clone(image)
	for n := 1 + r.Intn(2); n > 0; n-- {
		at := r.Intn(len(l))
		switch r.Intn(7) {
		case 0:
			l = append(slices.Delete(l, at, at+1), push(1))
		case 1:
			l = slices.Insert(l, at, l[r.Intn(len(l))])
		case 2:
			l[at].A = r.Intn(len(l) + 2)
		case 3:
			l[at].B = r.Intn(len(l)+2) - 1
		case 4:
			l[at].Op = r.Intn(20)
		case 5:
			other := r.Intn(len(l))
			l[at], l[other] = l[other], l[at]
		case 6:
			l[at].A += r.Intn(3) - 1
		}
	}
	return l
}
