package tongue_test

import (
	"fmt"
	"math/rand"
	"reflect"
	"testing"

	"punctual/api"
	"punctual/tongue"
)

func num(n int) api.Expr { return api.Expr{Kind: api.ENum, N: n} }

func variable(n int) api.Expr { return api.Expr{Kind: api.EVar, N: n} }

func input(n int) api.Expr { return api.Expr{Kind: api.EIn, N: n} }

func neg(a api.Expr) api.Expr { return api.Expr{Kind: api.ENeg, A: []api.Expr{a}} }

func two(kind int, a, b api.Expr) api.Expr { return api.Expr{Kind: kind, A: []api.Expr{a, b}} }

func less(a, b api.Expr) api.Cond { return api.Cond{Kind: api.Less, A: a, B: b} }

func work(n int) api.Stmt { return api.Stmt{Kind: api.SWork, N: n} }

func set(e api.Expr) api.Stmt { return api.Stmt{Kind: api.SSet, E: e} }

func repeat(list ...api.Stmt) api.Stmt { return api.Stmt{Kind: api.SRepeat, N: 2, Body: list} }

func lock(n int, list ...api.Stmt) api.Stmt { return api.Stmt{Kind: api.SLock, N: n, Body: list} }

// choice is an if, with the condition a < b.
func choice(yes, no []api.Stmt) api.Stmt {
	return api.Stmt{Kind: api.SIf, If: less(variable(0), variable(1)), Body: yes, Else: no}
}

func list(l ...api.Stmt) []api.Stmt { return l }

// chain is an expression of n nodes: a last one with n - 1 others around it.
func chain(n int, last api.Expr) api.Expr {
	for range n - 1 {
		last = neg(last)
	}
	return last
}

// within lays n loops around a list.
func within(n int, l []api.Stmt) []api.Stmt {
	for range n {
		l = list(repeat(l...))
	}
	return l
}

func works(n int) []api.Stmt {
	var l []api.Stmt
	for range n {
		l = append(l, work(1))
	}
	return l
}

func wantFault(t *testing.T, what string, got api.Fault, code api.Errno, at int) {
	t.Helper()
	if want := (api.Fault{Code: code, At: at}); got != want {
		t.Errorf("%s: %v, want %v", what, got, want)
	}
}

// read reads a text that must be a body.
func read(t *testing.T, text string) []api.Stmt {
	t.Helper()
	body, f := tongue.Parse(text)
	if f != (api.Fault{}) {
		t.Fatalf("Parse(%.200q): %v", text, f)
	}
	return body
}

// alike: are two things told alike? (Lists with nothing in them are, nil or not.)
func alike(a, b any) bool { return fmt.Sprint(a) == fmt.Sprint(b) }

// cloned is a copy of a body, with the spare room of its lists.
func cloned(l []api.Stmt) []api.Stmt {
	if l == nil {
		return nil
	}
	all := make([]api.Stmt, cap(l))
	for i, s := range l[:cap(l)] {
		s.E, s.If.A, s.If.B = clonedExpr(s.E), clonedExpr(s.If.A), clonedExpr(s.If.B)
		s.Body, s.Else = cloned(s.Body), cloned(s.Else)
		all[i] = s
	}
	return all[:len(l)]
}

func clonedExpr(e api.Expr) api.Expr {
	if e.A == nil {
		return e
	}
	all := make([]api.Expr, cap(e.A))
	for i, x := range e.A[:cap(e.A)] {
		all[i] = clonedExpr(x)
	}
	e.A = all[:len(e.A)]
	return e
}

// sameMemory: do two bodies have the same in their lists and in the spare room of them?
func sameMemory(a, b []api.Stmt) bool { return reflect.DeepEqual(whole(a), whole(b)) }

func whole(l []api.Stmt) []api.Stmt {
	l = cloned(l)
	return l[:cap(l)]
}

// maker makes bodies, always the same ones from the same seed.
type maker struct {
	*rand.Rand
	left int // how many statements may still be made
}

func made(seed int64) []api.Stmt {
	m := &maker{rand.New(rand.NewSource(seed)), 30}
	return m.list(0, 0)
}

// list is a list with deep statements around it; held are the locks that are held, one bit each.
func (m *maker) list(deep, held int) []api.Stmt {
	var l []api.Stmt
	for n := m.Intn(5); n > 0 && m.left > 0; n-- {
		l = append(l, m.stmt(deep, held))
	}
	return l
}

func (m *maker) stmt(deep, held int) api.Stmt {
	m.left--
	kind := 1 + m.Intn(7)
	lock := m.Intn(4)
	if deep == api.MaxDeep && api.SIf <= kind && kind <= api.SLock || kind == api.SLock && held>>lock&1 == 1 {
		kind = api.SSet
	}
	switch kind {
	case api.SSet:
		return api.Stmt{Kind: kind, N: m.Intn(8), E: m.expr(4)}
	case api.SOut:
		return api.Stmt{Kind: kind, N: m.Intn(4), E: m.expr(4)}
	case api.SIf:
		return api.Stmt{Kind: kind, If: m.cond(), Body: m.list(deep+1, held), Else: m.list(deep+1, held)}
	case api.SRepeat:
		return api.Stmt{Kind: kind, N: m.Intn(api.MaxCount + 1), Body: m.list(deep+1, held)}
	case api.SWhile:
		return api.Stmt{Kind: kind, N: m.Intn(api.MaxCount + 1), If: m.cond(), Body: m.list(deep+1, held)}
	case api.SLock:
		return api.Stmt{Kind: kind, N: lock, Body: m.list(deep+1, held|1<<lock)}
	}
	return api.Stmt{Kind: kind, N: 1 + m.Intn(api.MaxWork)}
}

func (m *maker) cond() api.Cond {
	return api.Cond{Kind: 1 + m.Intn(4), A: m.expr(4), B: m.expr(4)}
}

// expr is an expression at most deep nodes deep.
func (m *maker) expr(deep int) api.Expr {
	kind := 1 + m.Intn(7)
	if deep == 1 {
		kind = 1 + m.Intn(3)
	}
	switch kind {
	case api.ENum:
		return num(m.Intn(1000000000))
	case api.EVar:
		return variable(m.Intn(8))
	case api.EIn:
		return input(m.Intn(4))
	case api.ENeg:
		return neg(m.expr(deep - 1))
	}
	return two(kind, m.expr(deep-1), m.expr(deep-1))
}
