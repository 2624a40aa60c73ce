package tongue_test

import (
	"math"
	"testing"

	"punctual/api"
	"punctual/tongue"
)

func TestCheckTakesBodies(t *testing.T) {
	wantFault(t, "nil", tongue.Check(nil), api.OK, 0)
	wantFault(t, "empty", tongue.Check([]api.Stmt{}), api.OK, 0)
	for seed := range int64(300) {
		wantFault(t, "made", tongue.Check(made(seed)), api.OK, 0)
	}
	empty := api.Stmt{Kind: api.SWork, N: 1, E: api.Expr{A: []api.Expr{}}, If: api.Cond{A: api.Expr{A: []api.Expr{}}, B: api.Expr{A: []api.Expr{}}}, Body: []api.Stmt{}, Else: []api.Stmt{}}
	wantFault(t, "empty lists", tongue.Check(list(empty)), api.OK, 0)
}

func TestCheckKinds(t *testing.T) {
	for _, kind := range []int{0, 8, -1, 100, math.MinInt, math.MaxInt} {
		wantFault(t, "kind", tongue.Check(list(api.Stmt{Kind: kind})), api.ErrOp, 0)
		wantFault(t, "kind, behind another", tongue.Check(list(work(1), api.Stmt{Kind: kind, N: -1})), api.ErrOp, 1)
	}
}

func TestCheckNumbers(t *testing.T) {
	for _, c := range []struct {
		s           api.Stmt
		least, most int
	}{
		{api.Stmt{Kind: api.SSet, E: num(1)}, 0, 7},
		{api.Stmt{Kind: api.SOut, E: num(1)}, 0, 3},
		{api.Stmt{Kind: api.SIf, If: less(num(1), num(2))}, 0, 0},
		{api.Stmt{Kind: api.SRepeat}, 0, 1000},
		{api.Stmt{Kind: api.SWhile, If: less(num(1), num(2))}, 0, 1000},
		{api.Stmt{Kind: api.SLock}, 0, 3},
		{api.Stmt{Kind: api.SWork}, 1, 1000},
	} {
		for _, n := range []int{c.least, c.most, (c.least + c.most) / 2} {
			c.s.N = n
			wantFault(t, "in range", tongue.Check(list(c.s)), api.OK, 0)
		}
		for _, n := range []int{c.least - 1, c.most + 1, math.MinInt, math.MaxInt} {
			c.s.N = n
			wantFault(t, "out of range", tongue.Check(list(c.s)), api.ErrRange, 0)
		}
	}
}

// TestCheckParts: each part is taken at those kinds alone that use it.
func TestCheckParts(t *testing.T) {
	plain := list(
		api.Stmt{Kind: api.SSet, E: num(1)},
		api.Stmt{Kind: api.SOut, E: num(1)},
		api.Stmt{Kind: api.SIf, If: less(num(1), num(2))},
		api.Stmt{Kind: api.SRepeat},
		api.Stmt{Kind: api.SWhile, If: less(num(1), num(2))},
		api.Stmt{Kind: api.SLock},
		api.Stmt{Kind: api.SWork, N: 1},
	)
	for _, c := range []struct {
		what string
		add  func(s *api.Stmt)
		uses []int
	}{
		{"E", func(s *api.Stmt) { s.E = num(3) }, []int{api.SSet, api.SOut}},
		{"E's N", func(s *api.Stmt) { s.E.N = 3 }, []int{api.SSet, api.SOut}},
		{"If", func(s *api.Stmt) { s.If = less(num(3), num(4)) }, []int{api.SIf, api.SWhile}},
		{"If's kind", func(s *api.Stmt) { s.If.Kind = api.Same }, []int{api.SIf, api.SWhile}},
		{"If's A", func(s *api.Stmt) { s.If.A = num(3) }, []int{api.SIf, api.SWhile}},
		{"If's B", func(s *api.Stmt) { s.If.B = num(3) }, []int{api.SIf, api.SWhile}},
		{"Body", func(s *api.Stmt) { s.Body = works(1) }, []int{api.SIf, api.SRepeat, api.SWhile, api.SLock}},
		{"Else", func(s *api.Stmt) { s.Else = works(1) }, []int{api.SIf}},
	} {
		for _, s := range plain {
			want := api.ErrOp
			for _, kind := range c.uses {
				if s.Kind == kind {
					want = api.OK
				}
			}
			c.add(&s)
			wantFault(t, c.what, tongue.Check(list(s)), want, 0)
		}
	}
}

// TestCheckUnusedLists: a list of operands is something to have, too, where there is no kind and no number.
func TestCheckUnusedLists(t *testing.T) {
	something := api.Expr{A: []api.Expr{{}}}
	wantFault(t, "E", tongue.Check(list(api.Stmt{Kind: api.SWork, N: 1, E: something})), api.ErrOp, 0)
	wantFault(t, "If's A", tongue.Check(list(api.Stmt{Kind: api.SWork, N: 1, If: api.Cond{A: something}})), api.ErrOp, 0)
	wantFault(t, "If's B", tongue.Check(list(api.Stmt{Kind: api.SWork, N: 1, If: api.Cond{B: something}})), api.ErrOp, 0)
}

func TestCheckExpressions(t *testing.T) {
	wrong := api.Expr{Kind: 9}
	far := variable(8)
	for _, c := range []struct {
		what string
		e    api.Expr
		code api.Errno
	}{
		{"none", api.Expr{}, api.ErrOp},
		{"kind 8", api.Expr{Kind: 8}, api.ErrOp},
		{"kind -1", api.Expr{Kind: -1}, api.ErrOp},
		{"the least kind", api.Expr{Kind: math.MinInt}, api.ErrOp},
		{"0", num(0), api.OK},
		{"999999999", num(999999999), api.OK},
		{"1000000000", num(1000000000), api.ErrRange},
		{"-1", num(-1), api.ErrRange},
		{"h", variable(7), api.OK},
		{"i", far, api.ErrRange},
		{"variable -1", variable(-1), api.ErrRange},
		{"in 3", input(3), api.OK},
		{"in 4", input(4), api.ErrRange},
		{"in -1", input(-1), api.ErrRange},
		{"a number with an operand", api.Expr{Kind: api.ENum, A: []api.Expr{num(1)}}, api.ErrOp},
		{"a variable with an operand", api.Expr{Kind: api.EVar, A: []api.Expr{num(1)}}, api.ErrOp},
		{"an input with an operand", api.Expr{Kind: api.EIn, A: []api.Expr{num(1)}}, api.ErrOp},
		{"an opposite of nothing", api.Expr{Kind: api.ENeg}, api.ErrOp},
		{"an opposite of two", api.Expr{Kind: api.ENeg, A: []api.Expr{num(1), num(2)}}, api.ErrOp},
		{"a sum of nothing", api.Expr{Kind: api.EAdd}, api.ErrOp},
		{"a sum of one", api.Expr{Kind: api.EAdd, A: []api.Expr{num(1)}}, api.ErrOp},
		{"a difference of one", api.Expr{Kind: api.ESub, A: []api.Expr{num(1)}}, api.ErrOp},
		{"a product of three", api.Expr{Kind: api.EMul, A: []api.Expr{num(1), num(2), num(3)}}, api.ErrOp},
		{"an opposite with a number", api.Expr{Kind: api.ENeg, N: 1, A: []api.Expr{num(1)}}, api.ErrRange},
		{"a sum with a number", api.Expr{Kind: api.EAdd, N: -1, A: []api.Expr{num(1), num(1)}}, api.ErrRange},
		{"operands ahead of N", api.Expr{Kind: api.EVar, N: 8, A: []api.Expr{num(1)}}, api.ErrOp},
		{"a node ahead of its operands", api.Expr{Kind: api.ENeg, N: 1, A: []api.Expr{wrong}}, api.ErrRange},
		{"the first operand", two(api.EAdd, far, wrong), api.ErrRange},
		{"the first operand, too", two(api.ESub, wrong, far), api.ErrOp},
		{"the second operand", two(api.EMul, num(1), far), api.ErrRange},
		{"what lies in the first ahead of the second", two(api.EMul, neg(neg(far)), wrong), api.ErrRange},
	} {
		wantFault(t, c.what, tongue.Check(list(set(c.e))), c.code, 0)
		wantFault(t, c.what+", out", tongue.Check(list(api.Stmt{Kind: api.SOut, E: c.e})), c.code, 0)
		wantFault(t, c.what+", as A", tongue.Check(list(api.Stmt{Kind: api.SIf, If: less(c.e, num(1))})), c.code, 0)
		wantFault(t, c.what+", as B", tongue.Check(list(api.Stmt{Kind: api.SWhile, If: less(num(1), c.e)})), c.code, 0)
	}
}

func TestCheckThirtyNodes(t *testing.T) {
	wide := two(api.EAdd, chain(14, num(1)), chain(15, num(2)))
	for _, c := range []struct {
		what string
		e    api.Expr
		code api.Errno
	}{
		{"30", chain(30, num(1)), api.OK},
		{"31", chain(31, num(1)), api.ErrMany},
		{"30 of two", wide, api.OK},
		{"31 of two", two(api.EAdd, chain(15, num(1)), chain(15, num(2))), api.ErrMany},
		{"the 31st is no kind", chain(31, api.Expr{Kind: 9}), api.ErrMany},
		{"the 31st is out of range", chain(31, variable(8)), api.ErrMany},
		{"the 30th is no kind", chain(30, api.Expr{Kind: 9}), api.ErrOp},
		{"the 30th is out of range", chain(30, variable(8)), api.ErrRange},
		{"the second is out of range, and there are 40", two(api.EAdd, variable(8), chain(38, num(1))), api.ErrRange},
		{"the 31st comes ahead of a wrong one", two(api.EAdd, chain(30, num(1)), variable(8)), api.ErrMany},
	} {
		wantFault(t, c.what, tongue.Check(list(set(c.e))), c.code, 0)
	}
	both := api.Stmt{Kind: api.SIf, If: less(wide, chain(30, num(1)))}
	wantFault(t, "30 on both sides", tongue.Check(list(both, set(wide))), api.OK, 0)
	both.If.B = neg(wide)
	wantFault(t, "31 on the right", tongue.Check(list(set(wide), both)), api.ErrMany, 1)
}

func TestCheckConditions(t *testing.T) {
	wrong, far := api.Expr{Kind: 9}, variable(8)
	for _, c := range []struct {
		c    api.Cond
		code api.Errno
	}{
		{api.Cond{Kind: api.Less, A: num(1), B: num(2)}, api.OK},
		{api.Cond{Kind: api.Same, A: num(1), B: num(2)}, api.OK},
		{api.Cond{Kind: api.Other, A: num(1), B: num(2)}, api.OK},
		{api.Cond{Kind: api.Least, A: num(1), B: num(2)}, api.OK},
		{api.Cond{}, api.ErrOp},
		{api.Cond{Kind: 0, A: far, B: far}, api.ErrOp},
		{api.Cond{Kind: 5, A: far, B: far}, api.ErrOp},
		{api.Cond{Kind: -1, A: far, B: far}, api.ErrOp},
		{api.Cond{Kind: api.Least, A: far, B: wrong}, api.ErrRange},
		{api.Cond{Kind: api.Least, A: wrong, B: far}, api.ErrOp},
		{api.Cond{Kind: api.Least, A: num(1), B: far}, api.ErrRange},
		{api.Cond{Kind: api.Least, A: num(1)}, api.ErrOp},
	} {
		wantFault(t, "if", tongue.Check(list(api.Stmt{Kind: api.SIf, If: c.c})), c.code, 0)
		wantFault(t, "while", tongue.Check(list(work(1), api.Stmt{Kind: api.SWhile, If: c.c})), c.code, min(1, int(c.code)))
	}
}

func TestCheckDepth(t *testing.T) {
	for _, c := range []struct {
		what string
		body []api.Stmt
		code api.Errno
		at   int
	}{
		{"the sixth block", within(5, list(repeat())), api.OK, 0},
		{"a plain statement in six", within(6, works(1)), api.OK, 0},
		{"a seventh block", within(6, list(repeat())), api.ErrMany, 6},
		{"a seventh block, an if", within(6, list(work(1), choice(nil, nil))), api.ErrMany, 7},
		{"a seventh block, a while", within(6, list(api.Stmt{Kind: api.SWhile, If: less(num(1), num(2))})), api.ErrMany, 6},
		{"a seventh block, a lock", within(6, list(lock(1))), api.ErrMany, 6},
		{"an eighth block", within(7, list(repeat())), api.ErrMany, 6},
		{"a seventh block, in an else", list(choice(nil, within(5, list(repeat())))), api.ErrMany, 6},
		{"up and down again", append(within(6, works(1)), within(6, works(1))...), api.OK, 0},
	} {
		wantFault(t, c.what, tongue.Check(c.body), c.code, c.at)
	}
}

func TestCheckLocks(t *testing.T) {
	for _, c := range []struct {
		what string
		body []api.Stmt
		code api.Errno
		at   int
	}{
		{"one in itself", list(lock(1, lock(1))), api.ErrLock, 1},
		{"one behind the other", list(lock(1), lock(1)), api.OK, 0},
		{"one in another", list(lock(1, lock(2, lock(0, lock(3))))), api.OK, 0},
		{"far within", list(work(1), lock(1, lock(2, choice(works(2), list(lock(1)))))), api.ErrLock, 6},
		{"in a loop", list(lock(0, repeat(work(1), lock(0)))), api.ErrLock, 3},
		{"again when the inner one is given back", list(lock(1, lock(2), lock(2)), lock(2, lock(1))), api.OK, 0},
		{"a loop of the same number is no lock", list(api.Stmt{Kind: api.SRepeat, N: 1, Body: list(lock(1))}), api.OK, 0},
		{"the same in Body and Else", list(choice(list(lock(1)), list(lock(1)))), api.OK, 0},
	} {
		wantFault(t, c.what, tongue.Check(c.body), c.code, c.at)
	}
}

func TestCheckHowMany(t *testing.T) {
	none := api.Stmt{Kind: 9}
	for _, c := range []struct {
		what string
		body []api.Stmt
		code api.Errno
		at   int
	}{
		{"200", works(200), api.OK, 0},
		{"201", works(201), api.ErrMany, 0},
		{"200 in a loop", list(repeat(works(199)...)), api.OK, 0},
		{"201 in a loop", list(repeat(works(200)...)), api.ErrMany, 0},
		{"200 in an if", list(choice(works(100), works(99))), api.OK, 0},
		{"201 in an if", list(choice(works(100), works(100))), api.ErrMany, 0},
		{"201, where none may lie", list(api.Stmt{Kind: api.SWork, N: 1, Else: works(200)}), api.ErrMany, 0},
		{"200, where none may lie", list(api.Stmt{Kind: api.SWork, N: 1, Else: works(199)}), api.ErrOp, 0},
		{"201, and none is a statement", append(list(none), works(200)...), api.ErrMany, 0},
		{"the 200th is none", append(works(199), none), api.ErrOp, 199},
	} {
		wantFault(t, c.what, tongue.Check(c.body), c.code, c.at)
	}
}

// TestCheckOrder: of what is wrong with one statement the first is told, and of the statements the first one's.
func TestCheckOrder(t *testing.T) {
	far := variable(8)
	none := api.Stmt{Kind: 9}
	for _, c := range []struct {
		what string
		body []api.Stmt
		code api.Errno
		at   int
	}{
		{"kind, N", list(api.Stmt{Kind: 8, N: -1}), api.ErrOp, 0},
		{"N, what isn't used", list(api.Stmt{Kind: api.SSet, N: 8, E: num(1), Body: works(1)}), api.ErrRange, 0},
		{"N of an if, what isn't used", list(api.Stmt{Kind: api.SIf, N: 1, E: num(1)}), api.ErrRange, 0},
		{"N, E", list(api.Stmt{Kind: api.SSet, N: 8}), api.ErrRange, 0},
		{"what isn't used, E", list(api.Stmt{Kind: api.SSet, E: far, Else: works(1)}), api.ErrOp, 0},
		{"what isn't used, If", list(api.Stmt{Kind: api.SWhile, E: num(1), If: less(far, far)}), api.ErrOp, 0},
		{"N, depth", within(6, list(api.Stmt{Kind: api.SRepeat, N: 1001})), api.ErrRange, 6},
		{"what isn't used, depth", within(6, list(api.Stmt{Kind: api.SRepeat, Else: works(1)})), api.ErrOp, 6},
		{"If, depth", within(6, list(api.Stmt{Kind: api.SIf, If: less(far, far)})), api.ErrRange, 6},
		{"depth, lock", list(lock(1, within(5, list(lock(1)))...)), api.ErrMany, 6},
		{"depth, what lies within", within(6, list(repeat(none))), api.ErrMany, 6},
		{"lock, what lies within", list(lock(1, lock(1, none))), api.ErrLock, 1},
		{"N, what lies within", list(api.Stmt{Kind: api.SLock, N: 4, Body: list(none)}), api.ErrRange, 0},
		{"within ahead of behind", list(repeat(work(1), work(0)), none), api.ErrRange, 2},
		{"Body ahead of Else", list(choice(list(work(1), work(0)), list(none))), api.ErrRange, 2},
		{"Else", list(choice(works(2), list(work(1), none)), work(0)), api.ErrOp, 4},
		{"behind an if", list(choice(works(2), works(3)), repeat(), none), api.ErrOp, 7},
		{"far within", list(work(1), repeat(repeat(work(1)), choice(nil, list(lock(2, none)))), none), api.ErrOp, 6},
	} {
		wantFault(t, c.what, tongue.Check(c.body), c.code, c.at)
	}
}

// TestCheckEnds: a list may lie within itself.
func TestCheckEnds(t *testing.T) {
	body := list(repeat(), work(1))
	body[0].Body = body
	wantFault(t, "a body in itself", tongue.Check(body), api.ErrMany, 0)
	operands := []api.Expr{num(1), num(2)}
	operands[0] = api.Expr{Kind: api.EAdd, A: operands}
	wantFault(t, "an operand of its own", tongue.Check(list(work(1), set(operands[0]))), api.ErrMany, 1)
	operands[0].N = 1
	wantFault(t, "a wrong operand of its own", tongue.Check(list(set(operands[0]))), api.ErrRange, 0)
}

func TestOnlyRead(t *testing.T) {
	for seed := range int64(100) {
		body := append(made(seed), work(1))
		room := append(body, works(3)...)
		body = room[:len(body)]
		before := cloned(room)
		tongue.Check(body)
		tongue.Print(body)
		tongue.Count(body)
		if !sameMemory(room, before) {
			t.Fatalf("changed: %v, was %v", room, before)
		}
	}
}
