package kernel_test

import (
	"math/rand"
	"slices"

	"punctual/api"
	"punctual/compile"
	"punctual/wcet"
)

// maker makes images, bodies, tasks and comings, always the same ones from the same seed.
type maker struct {
	*rand.Rand
	image []api.Ins
	open  []int // counters
	held  []int // locks
	left  int   // how many pieces may still be made
	locks int   // how many locks are taken
}

func newMaker(seed int64) *maker { return &maker{Rand: rand.New(rand.NewSource(seed))} }

// one is one of some numbers.
func (m *maker) one(l ...int) int { return l[m.Intn(len(l))] }

// within is a number from least to most.
func (m *maker) within(least, most int) int { return least + m.Intn(most-least+1) }

// numbers are n numbers, small ones and some of 64 bits.
func (m *maker) numbers(n int) []int {
	l := make([]int, n)
	for i := range l {
		l[i] = m.one(m.Intn(5)-2, m.Intn(2), int(m.Uint64()))
	}
	return l
}

// anImage is an image of up to some pieces that chapter 4's Check takes.
func (m *maker) anImage(most int) []api.Ins {
	m.image, m.left = nil, m.Intn(most+1)
	for m.left > 0 {
		m.pieces(3)
	}
	return m.image
}

func (m *maker) add(op int, numbers ...int) int {
	numbers = append(numbers, 0, 0)
	m.image = append(m.image, api.Ins{Op: op, A: numbers[0], B: numbers[1]})
	return len(m.image) - 1
}

func (m *maker) here(at int) { m.image[at].A = len(m.image) }

// value puts one number onto the stack.
func (m *maker) value(deep int) {
	switch kind := m.Intn(8); {
	case kind < 5 && deep > 0:
		m.value(deep - 1)
		m.value(deep - 1)
		m.add(api.IAdd + kind)
	case kind == 5:
		m.add(api.IIn, m.Intn(4))
	case kind == 6:
		m.add(api.IPush, m.Intn(3))
	default:
		m.add(api.ILoad, m.Intn(8))
	}
}

func (m *maker) pieces(deep int) {
	for n := m.Intn(4); n > 0 && m.left > 0; n-- {
		m.left--
		m.piece(deep)
	}
}

func (m *maker) piece(deep int) {
	kind := m.Intn(11)
	if deep == 0 {
		kind %= 4
	}
	switch kind {
	case 0:
		m.value(1)
		m.add(api.IStore, m.Intn(8))
	case 1:
		m.value(1)
		m.add(api.IOut, m.Intn(4))
	case 2, 3:
		m.add(api.IWork, 1+m.Intn(4))
	case 4:
		if len(m.open) > 0 {
			m.add(api.IStop, m.open[m.Intn(len(m.open))])
		}
	case 5:
		m.choice(deep)
	case 6:
		m.loop(deep)
	default:
		m.locked(deep)
	}
}

// choice: some pieces, or others, or none.
func (m *maker) choice(deep int) {
	m.value(1)
	at := m.add(api.ISkip)
	m.pieces(deep - 1)
	if m.Intn(3) == 0 {
		m.here(at)
		return
	}
	behind := m.add(api.IJump)
	m.here(at)
	m.pieces(deep - 1)
	m.here(behind)
}

// aLock is one of the locks that are taken; -1: none is.
func (m *maker) aLock() int {
	if m.locks == 0 {
		return -1
	}
	return m.Intn(m.locks)
}

func (m *maker) locked(deep int) {
	a := m.aLock()
	if a < 0 || slices.Contains(m.held, a) {
		return
	}
	m.held = append(m.held, a)
	m.add(api.ILock, a)
	m.pieces(deep - 1)
	m.add(api.IUnlock, a)
	m.held = m.held[:len(m.held)-1]
}

func (m *maker) loop(deep int) {
	a := m.Intn(8)
	if slices.Contains(m.open, a) {
		return
	}
	m.open = append(m.open, a)
	begin := m.add(api.ICount, a, m.Intn(3)) + 1
	m.pieces(deep - 1)
	m.add(api.IAgain, a, begin)
	m.open = m.open[:len(m.open)-1]
}

// body is a list of statements with deep others around it; held are the locks that are held, one bit each.
func (m *maker) body(most, deep, held int) []api.Stmt {
	var l []api.Stmt
	for range m.Intn(most + 1) {
		l = append(l, m.stmt(deep, held))
	}
	return l
}

func (m *maker) stmt(deep, held int) api.Stmt {
	kind, lock := m.within(api.SSet, api.SWork), m.aLock()
	inner := deep < 3 && kind >= api.SIf && kind <= api.SLock
	switch {
	case kind == api.SOut:
		return api.Stmt{Kind: kind, N: m.Intn(4), E: m.expr(2)}
	case kind == api.SWork:
		return api.Stmt{Kind: kind, N: 1 + m.Intn(4)}
	case inner && kind == api.SLock && lock >= 0 && held>>lock&1 == 0:
		return api.Stmt{Kind: kind, N: lock, Body: m.body(2, deep+1, held|1<<lock)}
	case inner && kind == api.SIf:
		return api.Stmt{Kind: kind, If: m.cond(), Body: m.body(2, deep+1, held), Else: m.body(2, deep+1, held)}
	case inner && kind == api.SRepeat:
		return api.Stmt{Kind: kind, N: m.Intn(4), Body: m.body(2, deep+1, held)}
	case inner && kind == api.SWhile:
		return api.Stmt{Kind: kind, N: m.Intn(4), If: m.cond(), Body: m.body(2, deep+1, held)}
	}
	return api.Stmt{Kind: api.SSet, N: m.Intn(8), E: m.expr(2)}
}

func (m *maker) cond() api.Cond {
	return api.Cond{Kind: m.within(api.Less, api.Least), A: m.expr(1), B: m.expr(1)}
}

// expr is an expression at most deep nodes deep.
func (m *maker) expr(deep int) api.Expr {
	kind := m.within(api.ENum, api.EMul)
	if deep == 1 {
		kind = m.within(api.ENum, api.EIn)
	}
	switch kind {
	case api.ENum, api.EVar, api.EIn:
		return api.Expr{Kind: kind, N: m.Intn(4)}
	case api.ENeg:
		return api.Expr{Kind: kind, A: []api.Expr{m.expr(deep - 1)}}
	}
	return api.Expr{Kind: kind, A: []api.Expr{m.expr(deep - 1), m.expr(deep - 1)}}
}

// made are tasks, and the bodies of which their images were made; nil: of none.
type made struct {
	l      []api.Loaded
	bodies [][]api.Stmt
}

// tasks are n tasks which nothing is wrong with, and which together use about share hundredths of the core; of some C is what their image takes at worst, of some more; if cut, of some less.
func (m *maker) tasks(n, share int, cut bool) made {
	var all made
	m.locks = m.one(0, 1, 1, 2, 4)
	levels := m.one(1, n, n, 1001)
	for i := range n {
		l, body := m.anImage(m.one(2, 4, 8)), []api.Stmt(nil)
		if m.Intn(2) == 0 {
			body = append(m.body(4, 0, 0), api.Stmt{Kind: api.SWork, N: 1})
			l, _ = compile.Image(body)
		}
		bound, _ := wcet.Analyse(l)
		c := max(1, bound.Worst+m.one(0, 0, 0, m.Intn(3)))
		if cut && m.Intn(2) == 0 {
			c = 1 + m.Intn(c)
		}
		period := min(api.MaxTime, max(c, c*n*100/max(1, m.within(share/2, 2*share))))
		d := max(c, period-m.one(0, 0, 0, m.Intn(period)))
		p := m.Intn(levels)
		if levels == n {
			p = n - i
		}
		t := api.Task{Name: string(rune('a' + i)), C: c, T: period, D: d, P: p}
		all.l = append(all.l, api.Loaded{Task: t, Image: l})
		all.bodies = append(all.bodies, body)
	}
	return all
}

// comes lets tasks come as soon as they may, or now and then later, ahead of until.
func (m *maker) comes(l []api.Loaded, until int) []api.Come {
	lazy := m.one(0, 0, 4, 20)
	next := make([]int, len(l))
	for i, t := range l {
		next[i] = m.one(0, m.Intn(4), m.Intn(t.Task.T), m.Intn(1+lazy))
	}
	var all []api.Come
	for now := range until {
		for _, i := range m.Perm(len(l)) {
			if now == next[i] && len(all) < api.MaxJobs {
				all = append(all, api.Come{Task: i, At: now})
				next[i] += l[i].Task.T + m.Intn(1+lazy)
			}
		}
	}
	return all
}
