package compile_test

import (
	"fmt"
	"math/rand"
	"slices"
	"strconv"
	"strings"
	"testing"

	"punctual/api"
	"punctual/compile"
	"punctual/mach"
	"punctual/tongue"
)

func num(n int) api.Expr { return api.Expr{Kind: api.ENum, N: n} }

func variable(n int) api.Expr { return api.Expr{Kind: api.EVar, N: n} }

func neg(a api.Expr) api.Expr { return api.Expr{Kind: api.ENeg, A: []api.Expr{a}} }

func add(a, b api.Expr) api.Expr { return api.Expr{Kind: api.EAdd, A: []api.Expr{a, b}} }

func set(n int, e api.Expr) api.Stmt { return api.Stmt{Kind: api.SSet, N: n, E: e} }

func work(n int) api.Stmt { return api.Stmt{Kind: api.SWork, N: n} }

func repeat(n int, list ...api.Stmt) api.Stmt {
	return api.Stmt{Kind: api.SRepeat, N: n, Body: list}
}

func lock(n int, list ...api.Stmt) api.Stmt { return api.Stmt{Kind: api.SLock, N: n, Body: list} }

func less(a, b api.Expr) api.Cond { return api.Cond{Kind: api.Less, A: a, B: b} }

// sum is an expression of n numbers, and of n - 1 operators.
func sum(n int) api.Expr {
	e := num(1)
	for range n - 1 {
		e = add(e, num(1))
	}
	return e
}

// times is a list of n statements that are the same.
func times(n int, s api.Stmt) []api.Stmt {
	var l []api.Stmt
	for range n {
		l = append(l, s)
	}
	return l
}

// read reads a text that must be a body.
func read(t *testing.T, text string) []api.Stmt {
	t.Helper()
	body, f := tongue.Parse(text)
	if f != (api.Fault{}) {
		t.Fatalf("Parse(%.200q): %v", text, f)
	}
	return body
}

// image is the image of a body that must have one; package mach must take it.
func image(t *testing.T, body []api.Stmt) []api.Ins {
	t.Helper()
	l, f := compile.Image(body)
	if f != (api.Fault{}) {
		t.Fatalf("%.300s: %v", fmt.Sprint(body), f)
	}
	if f := mach.Check(l); f != (api.Fault{}) {
		t.Fatalf("%.300s: Check tells %v of %.300s", fmt.Sprint(body), f, fmt.Sprint(l))
	}
	return l
}

// wantNothing: is that the fault, and is there no image beside it?
func wantNothing(t *testing.T, what string, body []api.Stmt, want api.Fault) {
	t.Helper()
	l, f := compile.Image(body)
	if f != want || l != nil {
		t.Errorf("%s: %.300s %v, want %v", what, fmt.Sprint(l), f, want)
	}
}

// instructions reads instructions: a word each, and its numbers; a stroke between two of them is for the eye alone.
func instructions(t *testing.T, text string) []api.Ins {
	t.Helper()
	words := strings.Fields("- push load store add sub mul less same in out jump skip count again stop lock unlock work")
	var l []api.Ins
	for _, part := range strings.FieldsFunc(text, func(r rune) bool { return r == ',' || r == '|' || r == '\n' }) {
		fields := append(strings.Fields(part), "0", "0")
		op := slices.Index(words, fields[0])
		a, wrongA := strconv.Atoi(fields[1])
		b, wrongB := strconv.Atoi(fields[2])
		if op < 1 || wrongA != nil || wrongB != nil || len(fields) > 5 {
			t.Fatalf("%q is no instruction", part)
		}
		l = append(l, api.Ins{Op: op, A: a, B: b})
	}
	return l
}

// other makes images in another way than package compile: of each piece it knows how long it is, and so where all lies ahead of laying it down. at is where a piece lies, r how many loops lie around it.
func other(list []api.Stmt, at, r int) []api.Ins {
	var l []api.Ins
	for _, s := range list {
		l = append(l, otherStmt(s, at+len(l), r)...)
	}
	return l
}

func size(list []api.Stmt) int { return len(other(list, 0, 0)) }

func otherStmt(s api.Stmt, at, r int) []api.Ins {
	switch s.Kind {
	case api.SSet:
		return append(otherExpr(s.E), api.Ins{Op: api.IStore, A: s.N})
	case api.SOut:
		return append(otherExpr(s.E), api.Ins{Op: api.IOut, A: s.N})
	case api.SWork:
		return []api.Ins{{Op: api.IWork, A: s.N}}
	case api.SLock:
		return around(api.Ins{Op: api.ILock, A: s.N}, other(s.Body, at+1, r), api.Ins{Op: api.IUnlock, A: s.N})
	case api.SIf:
		return otherIf(s, at, r)
	}
	if s.N == 0 {
		return nil
	}
	inner := other(s.Body, at+1, r+1)
	if s.Kind == api.SWhile {
		inner = otherWhile(s, at+1, r)
	}
	return around(api.Ins{Op: api.ICount, A: r, B: s.N - 1}, inner, api.Ins{Op: api.IAgain, A: r, B: at + 1})
}

func around(first api.Ins, inner []api.Ins, last api.Ins) []api.Ins {
	return slices.Concat([]api.Ins{first}, inner, []api.Ins{last})
}

func otherIf(s api.Stmt, at, r int) []api.Ins {
	body := at + len(otherCond(s.If, 0))
	behind := body + size(s.Body)
	if len(s.Else) == 0 {
		return append(otherCond(s.If, behind), other(s.Body, body, r)...)
	}
	end := behind + 1 + size(s.Else)
	return slices.Concat(
		otherCond(s.If, behind+1),
		other(s.Body, body, r),
		[]api.Ins{{Op: api.IJump, A: end}},
		other(s.Else, behind+1, r))
}

func otherWhile(s api.Stmt, at, r int) []api.Ins {
	body := at + len(otherCond(s.If, 0))
	jump := body + size(s.Body)
	return slices.Concat(
		otherCond(s.If, jump+1),
		other(s.Body, body, r+1),
		[]api.Ins{{Op: api.IJump, A: jump + 2}, {Op: api.IStop, A: r}})
}

func otherCond(c api.Cond, to int) []api.Ins {
	l := append(otherExpr(c.A), otherExpr(c.B)...)
	switch c.Kind {
	case api.Less:
		l = append(l, api.Ins{Op: api.ILess})
	case api.Same:
		l = append(l, api.Ins{Op: api.ISame})
	case api.Other:
		l = append(l, api.Ins{Op: api.ISame}, api.Ins{Op: api.IPush}, api.Ins{Op: api.ISame})
	case api.Least:
		l = append(l, api.Ins{Op: api.ILess}, api.Ins{Op: api.IPush}, api.Ins{Op: api.ISame})
	}
	return append(l, api.Ins{Op: api.ISkip, A: to})
}

func otherExpr(e api.Expr) []api.Ins {
	switch e.Kind {
	case api.ENum:
		return []api.Ins{{Op: api.IPush, A: e.N}}
	case api.EVar:
		return []api.Ins{{Op: api.ILoad, A: e.N}}
	case api.EIn:
		return []api.Ins{{Op: api.IIn, A: e.N}}
	case api.ENeg:
		return append(otherExpr(e.A[0]), api.Ins{Op: api.IPush}, api.Ins{Op: api.IPush, A: 1}, api.Ins{Op: api.ISub}, api.Ins{Op: api.IMul})
	}
	op := map[int]int{api.EAdd: api.IAdd, api.ESub: api.ISub, api.EMul: api.IMul}[e.Kind]
	return slices.Concat(otherExpr(e.A[0]), otherExpr(e.A[1]), []api.Ins{{Op: op}})
}

// maker makes bodies, always the same ones from the same seed.
type maker struct {
	*rand.Rand
	left  int // how many statements may still be made
	times int // how often a loop may go round
}

// made is a body of so many statements.
func made(seed int64, stmts, times int) []api.Stmt {
	m := &maker{rand.New(rand.NewSource(seed)), stmts, times}
	var l []api.Stmt
	for m.left > 0 {
		l = append(l, m.stmt(0, 0))
	}
	return l
}

func (m *maker) list(deep, held int) []api.Stmt {
	var l []api.Stmt
	for n := m.Intn(5); n > 0 && m.left > 0; n-- {
		l = append(l, m.stmt(deep, held))
	}
	return l
}

// stmt is a statement with deep others around it; held are the locks that are held, one bit each.
func (m *maker) stmt(deep, held int) api.Stmt {
	m.left--
	kind := 1 + m.Intn(7)
	lock := m.Intn(4)
	if deep == api.MaxDeep && api.SIf <= kind && kind <= api.SLock || kind == api.SLock && held>>lock&1 == 1 {
		kind = api.SSet
	}
	switch kind {
	case api.SSet:
		return api.Stmt{Kind: kind, N: m.Intn(8), E: m.expr(4)}
	case api.SOut:
		return api.Stmt{Kind: kind, N: m.Intn(4), E: m.expr(4)}
	case api.SIf:
		return api.Stmt{Kind: kind, If: m.cond(), Body: m.list(deep+1, held), Else: m.list(deep+1, held)}
	case api.SRepeat:
		return api.Stmt{Kind: kind, N: m.Intn(m.times + 1), Body: m.list(deep+1, held)}
	case api.SWhile:
		return api.Stmt{Kind: kind, N: m.Intn(m.times + 1), If: m.cond(), Body: m.list(deep+1, held)}
	case api.SLock:
		return api.Stmt{Kind: kind, N: lock, Body: m.list(deep+1, held|1<<lock)}
	}
	return api.Stmt{Kind: kind, N: 1 + m.Intn(api.MaxWork)}
}

func (m *maker) cond() api.Cond {
	return api.Cond{Kind: 1 + m.Intn(4), A: m.expr(3), B: m.expr(3)}
}

// expr is an expression at most deep nodes deep.
func (m *maker) expr(deep int) api.Expr {
	kind := 1 + m.Intn(7)
	if m.Intn(3) > 0 {
		kind = api.ENeg + m.Intn(4) // else few images would be long
	}
	if deep == 1 {
		kind = 1 + m.Intn(3)
	}
	e := api.Expr{Kind: kind}
	switch kind {
	case api.ENum:
		e.N = m.Intn([]int{3, 1000000000}[m.Intn(2)])
	case api.EVar:
		e.N = m.Intn(8)
	case api.EIn:
		e.N = m.Intn(4)
	case api.ENeg:
		e.A = []api.Expr{m.expr(deep - 1)}
	default:
		e.A = []api.Expr{m.expr(deep - 1), m.expr(deep - 1)}
	}
	return e
}

// numbers are n numbers, small ones and some of 64 bits.
func (m *maker) numbers(n int) []int {
	l := make([]int, n)
	for i := range l {
		l[i] = []int{m.Intn(7) - 3, int(m.Uint64())}[m.Intn(2)]
	}
	return l
}

// roomy is a copy of a body, all lists of which have spare room, with something in it.
func roomy(l []api.Stmt) []api.Stmt {
	all := make([]api.Stmt, 0, len(l)+2)
	for _, s := range l {
		s.E, s.If.A, s.If.B = roomyExpr(s.E), roomyExpr(s.If.A), roomyExpr(s.If.B)
		s.Body, s.Else = roomy(s.Body), roomy(s.Else)
		all = append(all, s)
	}
	return append(all, work(77), work(78))[:len(l)]
}

func roomyExpr(e api.Expr) api.Expr {
	all := make([]api.Expr, 0, len(e.A)+2)
	for _, x := range e.A {
		all = append(all, roomyExpr(x))
	}
	e.A = append(all, num(77), num(78))[:len(e.A)]
	return e
}

// told is all of a body, with the spare room of its lists, as a text.
func told(l []api.Stmt) string {
	out := fmt.Sprint(l == nil, len(l), "[")
	for _, s := range l[:cap(l)] {
		out += fmt.Sprint(s.Kind, s.N, toldExpr(s.E), s.If.Kind, toldExpr(s.If.A), toldExpr(s.If.B), told(s.Body), told(s.Else), ";")
	}
	return out + "]"
}

func toldExpr(e api.Expr) string {
	out := fmt.Sprint(e.Kind, e.N, e.A == nil, len(e.A), "(")
	for _, a := range e.A[:cap(e.A)] {
		out += toldExpr(a) + ","
	}
	return out + ")"
}
