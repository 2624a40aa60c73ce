package compile_test

import (
	"fmt"
	"math/rand"
	"slices"
	"strings"
	"testing"

	"punctual/api"
	"punctual/compile"
	"punctual/mach"
	"punctual/meaning"
	"punctual/tongue"
)

func TestImage(t *testing.T) {
	for _, x := range []struct{ text, want string }{
		{"", ""},
		// Expressions.
		{"a = 0;", "push 0, store 0"},
		{"h = 999999999;", "push 999999999, store 7"},
		{"b = h;", "load 7, store 1"},
		{"c = in 3;", "in 3, store 2"},
		{"a = b + c;", "load 1, load 2, add, store 0"},
		{"a = b - c;", "load 1, load 2, sub, store 0"},
		{"a = b * c;", "load 1, load 2, mul, store 0"},
		{"a = -b;", "load 1, push 0, push 1, sub, mul, store 0"},
		{"a = --b;", "load 1, push 0, push 1, sub, mul, push 0, push 1, sub, mul, store 0"},
		{"a = -5 - -in 2;", "push 5, push 0, push 1, sub, mul, in 2, push 0, push 1, sub, mul, sub, store 0"},
		{"a = b - c - d;", "load 1, load 2, sub, load 3, sub, store 0"},
		{"a = b - (c - d);", "load 1, load 2, load 3, sub, sub, store 0"},
		{"a = (b + 2) * -(c * 3);", "load 1, push 2, add, load 2, push 3, mul, push 0, push 1, sub, mul, mul, store 0"},
		// Statements that have no others in them.
		{"out 0 = 7;", "push 7, out 0"},
		{"out 3 = a + 1;", "load 0, push 1, add, out 3"},
		{"work 1;", "work 1"},
		{"work 1000;", "work 1000"},
		{"work 2; out 1 = a; b = 3;", "work 2 | load 0, out 1 | push 3, store 1"},
		// Locks.
		{"lock 3 { }", "lock 3, unlock 3"},
		{"lock 0 { work 5; lock 2 { a = 1; } } lock 2 { }", "lock 0, work 5, lock 2, push 1, store 0, unlock 2, unlock 0 | lock 2, unlock 2"},
		// Conditions.
		{"if a < b { }", "load 0, load 1, less, skip 4"},
		{"if a == b { }", "load 0, load 1, same, skip 4"},
		{"if a != b { }", "load 0, load 1, same, push 0, same, skip 6"},
		{"if a >= b { }", "load 0, load 1, less, push 0, same, skip 6"},
		{"if -1 < in 0 + 2 { }", "push 1, push 0, push 1, sub, mul, in 0, push 2, add, less, skip 10"},
		// SIf, with and without an Else.
		{"if a < 1 { work 2; work 3; }", "load 0, push 1, less, skip 6, work 2, work 3"},
		{"if a < 1 { work 2; } else { }", "load 0, push 1, less, skip 5, work 2"},
		{"if a < 1 { work 2; } work 4;", "load 0, push 1, less, skip 5, work 2 | work 4"},
		{"if a < 1 { work 2; } else { work 3; work 4; }", "load 0, push 1, less, skip 6, work 2, jump 8, work 3, work 4"},
		{"if a < 1 { } else { work 3; } work 4;", "load 0, push 1, less, skip 5, jump 6, work 3 | work 4"},
		{"if a < 1 { } else { repeat 0 { work 3; } }", "load 0, push 1, less, skip 5, jump 5"},
		{"if a < 1 { upto 0 while a < 1 { } }", "load 0, push 1, less, skip 4"},
		{"work 9; if a < 1 { if b < 2 { work 1; } else { work 2; } } else { if c < 3 { work 3; } } work 4;",
			"work 9 | load 0, push 1, less, skip 13 | load 1, push 2, less, skip 11, work 1, jump 12, work 2 | jump 18 | load 2, push 3, less, skip 18, work 3 | work 4"},
		// Loops.
		{"repeat 0 { work 1; a = 2; }", ""},
		{"repeat 1 { }", "count 0 0, again 0 1"},
		{"repeat 1 { work 5; }", "count 0 0, work 5, again 0 1"},
		{"repeat 1000 { work 5; }", "count 0 999, work 5, again 0 1"},
		{"work 1; repeat 3 { work 5; } work 2;", "work 1 | count 0 2, work 5, again 0 2 | work 2"},
		{"upto 0 while a < 1 { work 1; }", ""},
		{"upto 1 while a < 2 { }", "count 0 0, load 0, push 2, less, skip 6, jump 7, stop 0, again 0 1"},
		{"upto 1000 while a >= 2 { work 5; }", "count 0 999, load 0, push 2, less, push 0, same, skip 9, work 5, jump 10, stop 0, again 0 1"},
		{"repeat 0 { work 1; } work 2;", "work 2"},
		{"repeat 3 { repeat 0 { work 1; } }", "count 0 2, again 0 1"},
		// The counter that each loop has.
		{"repeat 2 { } repeat 3 { }", "count 0 1, again 0 1 | count 0 2, again 0 3"},
		{"repeat 2 { repeat 3 { } repeat 4 { } } repeat 5 { }", "count 0 1, count 1 2, again 1 2, count 1 3, again 1 4, again 0 1 | count 0 4, again 0 7"},
		{"repeat 2 { upto 3 while a < 1 { repeat 4 { } } }", "count 0 1 | count 1 2, load 0, push 1, less, skip 9 | count 2 3, again 2 7 | jump 10, stop 1, again 1 2 | again 0 1"},
		{"upto 2 while a < 1 { repeat 3 { } upto 4 while a < 1 { } }", "count 0 1, load 0, push 1, less, skip 16 | count 1 2, again 1 6 | count 1 3, load 0, push 1, less, skip 13, jump 14, stop 1, again 1 8 | jump 17, stop 0, again 0 1"},
		{"lock 1 { repeat 2 { if a < 1 { lock 2 { repeat 3 { } } } } }", "lock 1, count 0 1, load 0, push 1, less, skip 10, lock 2, count 1 2, again 1 8, unlock 2, again 0 2, unlock 1"},
		{"if a < 1 { repeat 2 { } } else { repeat 3 { } }", "load 0, push 1, less, skip 7, count 0 1, again 0 5, jump 9, count 0 2, again 0 8"},
		{"repeat 2 { repeat 2 { repeat 2 { repeat 2 { repeat 2 { repeat 2 { } } } } } }", "count 0 1, count 1 1, count 2 1, count 3 1, count 4 1, count 5 1, again 5 6, again 4 5, again 3 4, again 2 3, again 1 2, again 0 1"},
	} {
		body := read(t, x.text)
		want := instructions(t, x.want)
		if got := image(t, body); !slices.Equal(got, want) {
			t.Errorf("%s: %v, want %v", x.text, got, want)
		}
		if got := other(body, 0, 0); !slices.Equal(got, want) {
			t.Errorf("%s, in another way: %v, want %v", x.text, got, want)
		}
	}
}

// TestExample is the document's.
func TestExample(t *testing.T) {
	l := image(t, read(t, "repeat 3 { a = a + in 0; } out 1 = a * 2;"))
	want := instructions(t, "count 0 2, load 0, in 0, add, store 0, again 0 1, load 0, push 2, mul, out 1")
	if !slices.Equal(l, want) {
		t.Errorf("%v, want %v", l, want)
	}
	e, f := mach.Run(l, make([]int, 8), []int{5, 0, 0, 0})
	if f != (api.Fault{}) || e.Vars[0] != 15 || !slices.Equal(e.Puts, []api.Put{{Port: 1, Value: 30}}) || e.Steps != 28 {
		t.Errorf("%v %v", e, f)
	}
}

// TestNothing: lists that have nothing in them, nil or not, are the same.
func TestNothing(t *testing.T) {
	for _, none := range [][]api.Stmt{nil, {}} {
		if l := image(t, none); len(l) != 0 {
			t.Errorf("%v", l)
		}
		e := num(1)
		e.A = []api.Expr{}
		choice := api.Stmt{Kind: api.SIf, If: less(e, num(2)), Body: none, Else: none}
		want := instructions(t, "push 1, push 2, less, skip 4")
		if l := image(t, []api.Stmt{choice}); !slices.Equal(l, want) {
			t.Errorf("%v, want %v", l, want)
		}
	}
}

// TestMany: of just as many instructions as may be, and of more and fewer.
func TestMany(t *testing.T) {
	ten, twenty := set(0, sum(5)), set(0, sum(10))
	choice := api.Stmt{Kind: api.SIf, If: less(num(1), num(2))}
	for _, x := range []struct {
		what string
		body []api.Stmt
		size int
	}{
		{"of ten each", times(200, ten), 2000},
		{"and one more", append(append(times(198, ten), twenty), work(1)), 2001},
		{"one more at first", append([]api.Stmt{work(1), twenty}, times(198, ten)...), 2001},
		{"one less", append(append(times(197, ten), twenty), work(1)), 1991},
		{"within a loop", []api.Stmt{repeat(1, append(append(times(197, ten), twenty), times(1, set(0, sum(4)))...)...)}, 2000},
		{"within a lock", []api.Stmt{lock(1, times(199, ten)...)}, 1992},
		{"a skip to the end", append(append(times(198, ten), set(0, sum(8))), choice), 2000},
		{"one behind it", append(append(append(times(197, ten), set(0, sum(8))), choice), twenty), 2010},
		{"two more", append(append(times(198, ten), twenty), set(1, num(1))), 2002},
		{"as many as can be", times(200, set(0, chain(30, num(1)))), 200 * (1 + 29*4 + 1)},
		{"in a loop of no times", []api.Stmt{repeat(0, times(199, twenty)...)}, 0},
		{"beside a loop of no times", append(times(150, ten), repeat(0, times(49, twenty)...)), 1500},
		{"in a while of no times", []api.Stmt{{Kind: api.SWhile, If: less(num(1), num(2)), Body: times(199, twenty)}}, 0},
	} {
		if got := len(other(x.body, 0, 0)); got != x.size {
			t.Errorf("%s: the test is wrong: %d", x.what, got)
		}
		if x.size > api.MaxIns {
			wantNothing(t, x.what, x.body, api.Fault{Code: api.ErrMany})
		} else if got := image(t, x.body); !slices.Equal(got, other(x.body, 0, 0)) {
			t.Errorf("%s: %v", x.what, got)
		}
	}
}

// chain is an expression of n nodes: a last one with n - 1 opposites around it.
func chain(n int, last api.Expr) api.Expr {
	for range n - 1 {
		last = neg(last)
	}
	return last
}

// TestManyAround: lengths about the greatest one, all of them.
func TestManyAround(t *testing.T) {
	for more := range 60 {
		body := append(times(100, set(0, sum(9))), times(40+more, work(1))...)
		body = append(body, times(15, set(1, sum(4)))...)
		if want := 1800 + 40 + more + 15*8; want > api.MaxIns {
			wantNothing(t, fmt.Sprint(want), body, api.Fault{Code: api.ErrMany})
		} else if got := len(image(t, body)); got != want {
			t.Errorf("%d, want %d", got, want)
		}
	}
}

// TestWrong: what Check refuses has no image, and what Check says is told ahead of what is too long.
func TestWrong(t *testing.T) {
	cyclic := []api.Stmt{repeat(1)}
	cyclic[0].Body = cyclic
	round := neg(num(1))
	round.A[0] = round
	long := append(times(198, set(0, sum(15))), work(1))
	deep := []api.Stmt{}
	for range 7 {
		deep = []api.Stmt{repeat(1, deep...)}
	}
	for _, x := range []struct {
		what string
		body []api.Stmt
		want api.Fault
	}{
		{"no kind", []api.Stmt{work(1), {}}, api.Fault{Code: api.ErrOp, At: 1}},
		{"no such kind", []api.Stmt{{Kind: 8}}, api.Fault{Code: api.ErrOp}},
		{"a negative kind", []api.Stmt{work(1), work(2), {Kind: -1}}, api.Fault{Code: api.ErrOp, At: 2}},
		{"no such variable", []api.Stmt{set(8, num(1))}, api.Fault{Code: api.ErrRange}},
		{"no such lock", []api.Stmt{work(1), lock(4)}, api.Fault{Code: api.ErrRange, At: 1}},
		{"no work", []api.Stmt{repeat(1, work(0))}, api.Fault{Code: api.ErrRange, At: 1}},
		{"too often", []api.Stmt{repeat(1001)}, api.Fault{Code: api.ErrRange}},
		{"below no times", []api.Stmt{repeat(-1)}, api.Fault{Code: api.ErrRange}},
		{"wrong in a loop of no times", []api.Stmt{repeat(0, work(1), work(0))}, api.Fault{Code: api.ErrRange, At: 2}},
		{"wrong in an Else", []api.Stmt{{Kind: api.SIf, If: less(num(1), num(2)), Body: times(2, work(1)), Else: []api.Stmt{work(0)}}}, api.Fault{Code: api.ErrRange, At: 3}},
		{"no condition", []api.Stmt{{Kind: api.SIf}}, api.Fault{Code: api.ErrOp}},
		{"no such condition", []api.Stmt{{Kind: api.SIf, If: api.Cond{Kind: 5, A: num(1), B: num(1)}}}, api.Fault{Code: api.ErrOp}},
		{"no expression", []api.Stmt{set(0, api.Expr{})}, api.Fault{Code: api.ErrOp}},
		{"no such expression", []api.Stmt{set(0, api.Expr{Kind: 8})}, api.Fault{Code: api.ErrOp}},
		{"a missing operand", []api.Stmt{work(1), set(0, api.Expr{Kind: api.EAdd, A: []api.Expr{num(1)}})}, api.Fault{Code: api.ErrOp, At: 1}},
		{"a number too great", []api.Stmt{set(0, num(1000000000))}, api.Fault{Code: api.ErrRange}},
		{"more than it uses", []api.Stmt{{Kind: api.SWork, N: 1, Body: times(1, work(1))}}, api.Fault{Code: api.ErrOp}},
		{"a lock twice", []api.Stmt{lock(2, work(1), lock(2))}, api.Fault{Code: api.ErrLock, At: 2}},
		{"too deep", deep, api.Fault{Code: api.ErrMany, At: 6}},
		{"too many nodes", []api.Stmt{work(1), set(0, chain(31, num(1)))}, api.Fault{Code: api.ErrMany, At: 1}},
		{"too many statements", times(201, work(1)), api.Fault{Code: api.ErrMany}},
		{"a body within itself", cyclic, api.Fault{Code: api.ErrMany}},
		{"an expression within itself", []api.Stmt{set(0, round)}, api.Fault{Code: api.ErrMany}},
		{"too long, and wrong at the end", append(slices.Clone(long), work(0)), api.Fault{Code: api.ErrRange, At: 199}},
		{"too long", append(slices.Clone(long), work(1)), api.Fault{Code: api.ErrMany}},
	} {
		wantNothing(t, x.what, x.body, x.want)
		if f := tongue.Check(x.body); x.what != "too long" && f != x.want {
			t.Errorf("%s: Check tells %v, want %v", x.what, f, x.want)
		}
	}
}

// TestStack: the expressions that need most room on the stack still have it.
func TestStack(t *testing.T) {
	e := neg(num(1))
	for range 14 {
		e = add(num(1), e)
	}
	for _, s := range []api.Stmt{
		set(0, e),
		{Kind: api.SOut, E: e},
		{Kind: api.SIf, If: less(e, e)},
		{Kind: api.SWhile, N: 5, If: api.Cond{Kind: api.Least, A: e, B: e}, Body: []api.Stmt{set(0, e)}},
	} {
		image(t, []api.Stmt{s})
	}
}

// TestAgainstOther: made bodies have the instructions that another way gives.
func TestAgainstOther(t *testing.T) {
	fit, long := 0, 0
	for seed := range int64(600) {
		body := made(seed, []int{8, 30, 200}[seed%3], api.MaxCount)
		want := other(body, 0, 0)
		if len(want) > api.MaxIns {
			long++
			wantNothing(t, fmt.Sprint(seed), body, api.Fault{Code: api.ErrMany})
			continue
		}
		fit++
		if got := image(t, body); !slices.Equal(got, want) {
			t.Fatalf("seed %d: %v, want %v", seed, got, want)
		}
	}
	if fit < 500 || long < 10 {
		t.Errorf("%d have an image, %d are too long: too few to tell", fit, long)
	}
}

// shapes are all lists of n statements, of kinds that lay jumps, counters and regions down, at most deep within one another.
func shapes(n, deep int) [][]api.Stmt {
	if n == 0 {
		return [][]api.Stmt{nil}
	}
	var all [][]api.Stmt
	for inner := range n {
		for _, rest := range shapes(n-1-inner, deep) {
			for _, s := range first(inner, deep) {
				all = append(all, append([]api.Stmt{s}, rest...))
			}
		}
	}
	return all
}

// first are all statements that have inner others in them.
func first(inner, deep int) []api.Stmt {
	var all []api.Stmt
	if inner == 0 {
		all = append(all, set(0, add(variable(0), num(1))))
	}
	if deep == 0 {
		return all
	}
	while := api.Cond{Kind: api.Less, A: variable(0), B: num(2)}
	for _, l := range shapes(inner, deep-1) {
		for _, n := range []int{0, 3} {
			all = append(all, repeat(n, l...), api.Stmt{Kind: api.SWhile, N: n, If: while, Body: l})
		}
		all = append(all, lock(4-deep, l...))
	}
	for yes := range inner + 1 {
		for _, a := range shapes(yes, deep-1) {
			for _, b := range shapes(inner-yes, deep-1) {
				all = append(all, api.Stmt{Kind: api.SIf, If: while, Body: a, Else: b})
			}
		}
	}
	return all
}

// TestShapes: all short bodies.
func TestShapes(t *testing.T) {
	for n := range 5 {
		for _, body := range shapes(n, 4) {
			l := image(t, body)
			if want := other(body, 0, 0); !slices.Equal(l, want) {
				t.Fatalf("%s: %v, want %v", tongue.Print(body), l, want)
			}
			wantSame(t, body, l, make([]int, 8), make([]int, 4))
		}
	}
}

// wantSame: where both can be done, do a body and its image leave the same? It answers whether both could.
func wantSame(t *testing.T, body []api.Stmt, l []api.Ins, vars, in []int) bool {
	t.Helper()
	want, f := meaning.Run(body, vars, in)
	if f.Code != api.OK {
		return false
	}
	got, f := mach.Run(l, vars, in)
	if f.Code != api.OK {
		if f.Code != api.ErrSteps {
			t.Fatalf("%s: %v", tongue.Print(body), f)
		}
		return false
	}
	if !slices.Equal(got.Vars, want.Vars) || !slices.Equal(got.Puts, want.Puts) {
		t.Fatalf("%s: %v, want %v", tongue.Print(body), got, want)
	}
	return true
}

// TestDoesTheSame: an image does what its body does, whatever the variables and inputs are.
func TestDoesTheSame(t *testing.T) {
	both := 0
	for seed := range int64(6000) {
		body := made(seed, int(seed%20), 4)
		l, f := compile.Image(body)
		if f.Code != api.OK {
			continue
		}
		m := &maker{Rand: rand.New(rand.NewSource(seed))}
		for range 3 {
			if wantSame(t, body, l, m.numbers(8), m.numbers(4)) {
				both++
			}
		}
	}
	if both < 5000 {
		t.Errorf("only %d were done", both)
	}
}

// TestLoops: how often a loop goes round, with each of the conditions, and that what is left behind by one doesn't reach the next.
func TestLoops(t *testing.T) {
	for _, sign := range []string{"<", "==", "!=", ">="} {
		for _, n := range []string{"0", "1", "2", "5", "1000"} {
			text := strings.NewReplacer("SIGN", sign, "N", n).Replace(`
				upto N while a SIGN in 0 { a = a + 1; out 0 = a;
					upto N while b SIGN in 1 { b = b + 1; if b SIGN 3 { out 1 = b; } else { out 2 = b; } }
					b = -2; repeat 2 { out 3 = b; } }
				repeat 3 { c = c + 1; upto 2 while c SIGN in 2 { d = d + c; } }`)
			body := read(t, text)
			l := image(t, body)
			for stop := -3; stop < 4; stop++ {
				wantSame(t, body, l, make([]int, 8), []int{stop, -stop, 2, 0})
			}
		}
	}
}

// TestOnlyRead: bodies are only read, neither what is in their lists nor the spare room behind is changed; and answers are new.
func TestOnlyRead(t *testing.T) {
	for seed := range int64(300) {
		body := roomy(made(seed, 30, 5))
		was := told(body)
		a, f := compile.Image(body)
		if f.Code != api.OK {
			continue
		}
		want := slices.Clone(a)
		b := image(t, body)
		for i := range b {
			b[i] = api.Ins{}
		}
		clear(b[:cap(b)])
		if !slices.Equal(a, want) {
			t.Fatalf("seed %d: two answers share memory", seed)
		}
		if c := image(t, body); !slices.Equal(c, want) {
			t.Fatalf("seed %d: an answer hangs on what was done to another", seed)
		}
		if told(body) != was {
			t.Fatalf("seed %d: the body was changed", seed)
		}
	}
}
