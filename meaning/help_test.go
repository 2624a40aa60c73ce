package meaning_test

import (
	"fmt"
	"math/big"
	"math/rand"
	"slices"
	"testing"

	"punctual/api"
	"punctual/meaning"
	"punctual/tongue"
)

func read(t *testing.T, text string) []api.Stmt {
	t.Helper()
	body, f := tongue.Parse(text)
	if f != (api.Fault{}) {
		t.Fatalf("Parse(%.200q): %v", text, f)
	}
	return body
}

// ran is what a text leaves that must come to its end.
func ran(t *testing.T, text string, vars, in [8]int) api.Ended {
	t.Helper()
	out, f := meaning.Run(read(t, text), vars[:], in[:4])
	if f != (api.Fault{}) {
		t.Fatalf("%.200q: %v", text, f)
	}
	return out
}

func wantEnded(t *testing.T, what string, got, want api.Ended) {
	t.Helper()
	if !alike(got, want) {
		t.Errorf("%.200s: %v, want %v", what, got, want)
	}
}

// wantFault: is that the fault, and is there nothing beside it?
func wantFault(t *testing.T, what string, out api.Ended, got api.Fault, code api.Errno, at int) {
	t.Helper()
	if want := (api.Fault{Code: code, At: at}); got != want {
		t.Errorf("%.200s: %v, want %v", what, got, want)
	}
	if out.Vars != nil || out.Puts != nil || out.Steps != 0 {
		t.Errorf("%.200s: %v, beside a fault", what, out)
	}
}

func alike(a, b api.Ended) bool {
	return slices.Equal(a.Vars, b.Vars) && slices.Equal(a.Puts, b.Puts) && a.Steps == b.Steps
}

// todo is a statement, its number, and how often it has gone round; -1 if it wasn't come to yet.
type todo struct {
	s         api.Stmt
	at, times int
}

// other does bodies in another way than package meaning: what is still to be done stands in a list, the next one last; numbers of statements are counted anew each time; what goes round is cut to 64 bits out of numbers of any length.
type other struct {
	api.Ended
	in   []int
	left []todo
}

func (o *other) run(body []api.Stmt) (api.Ended, api.Fault) {
	o.push(body, 0)
	for len(o.left) > 0 {
		d := o.left[len(o.left)-1]
		o.left = o.left[:len(o.left)-1]
		if d.times < 0 {
			d.times = 0
			o.Steps++
		}
		if o.Steps > 20000 {
			return api.Ended{}, api.Fault{Code: api.ErrSteps, At: d.at}
		}
		o.do(d)
	}
	return o.Ended, api.Fault{}
}

func (o *other) push(list []api.Stmt, at int) {
	for i := len(list) - 1; i >= 0; i-- {
		o.left = append(o.left, todo{list[i], at + tongue.Count(list[:i]), -1})
	}
}

func (o *other) do(d todo) {
	s := d.s
	switch s.Kind {
	case api.SSet:
		o.Vars[s.N] = o.value(s.E)
	case api.SOut:
		o.Puts = append(o.Puts, api.Put{Port: s.N, Value: o.value(s.E)})
	case api.SIf:
		if o.holds(s.If) {
			o.push(s.Body, d.at+1)
		} else {
			o.push(s.Else, d.at+1+tongue.Count(s.Body))
		}
	case api.SRepeat, api.SWhile:
		if d.times < s.N && (s.Kind == api.SRepeat || o.holds(s.If)) {
			d.times++
			o.left = append(o.left, d)
			o.push(s.Body, d.at+1)
		}
	case api.SLock:
		o.push(s.Body, d.at+1)
	}
}

func (o *other) holds(c api.Cond) bool {
	a, b := big.NewInt(int64(o.value(c.A))), big.NewInt(int64(o.value(c.B)))
	taken := map[int][]int{api.Less: {-1}, api.Same: {0}, api.Other: {-1, 1}, api.Least: {0, 1}}
	return slices.Contains(taken[c.Kind], a.Cmp(b))
}

func (o *other) value(e api.Expr) int {
	var of []*big.Int
	for _, a := range e.A {
		of = append(of, big.NewInt(int64(o.value(a))))
	}
	x := new(big.Int)
	switch e.Kind {
	case api.ENum:
		return e.N
	case api.EVar:
		return o.Vars[e.N]
	case api.EIn:
		return o.in[e.N]
	case api.ENeg:
		x.Neg(of[0])
	case api.EAdd:
		x.Add(of[0], of[1])
	case api.ESub:
		x.Sub(of[0], of[1])
	case api.EMul:
		x.Mul(of[0], of[1])
	}
	return wrapped(x)
}

// wrapped is the number of 64 bits that x becomes.
func wrapped(x *big.Int) int {
	round := new(big.Int).Lsh(big.NewInt(1), 64)
	x = new(big.Int).Mod(x, round)
	if x.Bit(63) == 1 {
		x.Sub(x, round)
	}
	return int(x.Int64())
}

// maker makes bodies, always the same ones from the same seed.
type maker struct {
	*rand.Rand
	left  int // how many statements may still be made
	times int // how often a loop may go round
}

func (m *maker) list(deep, held int) []api.Stmt {
	var l []api.Stmt
	for n := m.Intn(5); n > 0 && m.left > 0; n-- {
		l = append(l, m.stmt(deep, held))
	}
	return l
}

// stmt is a statement with deep others around it; held are the locks that are held, one bit each.
func (m *maker) stmt(deep, held int) api.Stmt {
	m.left--
	kind := 1 + m.Intn(7)
	lock := m.Intn(4)
	if deep == api.MaxDeep && api.SIf <= kind && kind <= api.SLock || kind == api.SLock && held>>lock&1 == 1 {
		kind = api.SSet
	}
	switch kind {
	case api.SSet:
		return api.Stmt{Kind: kind, N: m.Intn(8), E: m.expr(4)}
	case api.SOut:
		return api.Stmt{Kind: kind, N: m.Intn(4), E: m.expr(4)}
	case api.SIf:
		return api.Stmt{Kind: kind, If: m.cond(), Body: m.list(deep+1, held), Else: m.list(deep+1, held)}
	case api.SRepeat:
		return api.Stmt{Kind: kind, N: m.Intn(m.times + 1), Body: m.list(deep+1, held)}
	case api.SWhile:
		return api.Stmt{Kind: kind, N: m.Intn(m.times + 1), If: m.cond(), Body: m.list(deep+1, held)}
	case api.SLock:
		return api.Stmt{Kind: kind, N: lock, Body: m.list(deep+1, held|1<<lock)}
	}
	return api.Stmt{Kind: kind, N: 1 + m.Intn(api.MaxWork)}
}

func (m *maker) cond() api.Cond {
	return api.Cond{Kind: 1 + m.Intn(4), A: m.expr(3), B: m.expr(3)}
}

// expr is an expression at most deep nodes deep.
func (m *maker) expr(deep int) api.Expr {
	kind := 1 + m.Intn(7)
	if deep == 1 {
		kind = 1 + m.Intn(3)
	}
	e := api.Expr{Kind: kind}
	switch kind {
	case api.ENum:
		e.N = m.Intn([]int{3, 1000000000}[m.Intn(2)])
	case api.EVar:
		e.N = m.Intn(8)
	case api.EIn:
		e.N = m.Intn(4)
	case api.ENeg:
		e.A = []api.Expr{m.expr(deep - 1)}
	default:
		e.A = []api.Expr{m.expr(deep - 1), m.expr(deep - 1)}
	}
	return e
}

// numbers are n numbers, small ones and some of 64 bits.
func (m *maker) numbers(n int) []int {
	l := make([]int, n)
	for i := range l {
		l[i] = []int{m.Intn(7) - 3, int(m.Uint64())}[m.Intn(2)]
	}
	return l
}

// told is all of a body, with the spare room of its lists, as a text.
func told(l []api.Stmt) string {
	out := fmt.Sprint(l == nil, len(l), "[")
	for _, s := range l[:cap(l)] {
		out += fmt.Sprint(s.Kind, s.N, toldExpr(s.E), s.If.Kind, toldExpr(s.If.A), toldExpr(s.If.B), told(s.Body), told(s.Else), ";")
	}
	return out + "]"
}

func toldExpr(e api.Expr) string {
	out := fmt.Sprint(e.Kind, e.N, e.A == nil, len(e.A), "(")
	for _, a := range e.A[:cap(e.A)] {
		out += toldExpr(a) + ","
	}
	return out + ")"
}
