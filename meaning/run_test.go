package meaning_test

import (
	"fmt"
	"math"
	"math/rand"
	"slices"
	"strings"
	"testing"
	"time"

	"punctual/api"
	"punctual/meaning"
)

// TestStatements: what each kind of statement does, and how many steps it takes.
func TestStatements(t *testing.T) {
	vars := [8]int{10, 11, 12, 13, 14, 15, 16, 17}
	in := [8]int{20, 21, 22, 23}
	for _, c := range []struct {
		text  string
		vars  map[int]int // those that become others
		puts  []api.Put
		steps int
	}{
		{"", nil, nil, 0},
		{"a = 1;", map[int]int{0: 1}, nil, 1},
		{"h = 1; h = h + 2;", map[int]int{7: 3}, nil, 2},
		{"a = b; b = a;", map[int]int{0: 11}, nil, 2},
		{"out 0 = 5;", nil, []api.Put{{Port: 0, Value: 5}}, 1},
		{"out 3 = a; a = in 3; out 1 = a; out 3 = a;", map[int]int{0: 23}, []api.Put{{Port: 3, Value: 10}, {Port: 1, Value: 23}, {Port: 3, Value: 23}}, 4},
		{"work 1000; work 1;", nil, nil, 2},
		{"lock 0 { a = 1; lock 3 { b = 2; } } c = 3;", map[int]int{0: 1, 1: 2, 2: 3}, nil, 5},
		{"lock 2 { }", nil, nil, 1},
		{"if a == 10 { b = 1; c = 2; } else { d = 3; }", map[int]int{1: 1, 2: 2}, nil, 3},
		{"if a != 10 { b = 1; c = 2; } else { d = 3; }", map[int]int{3: 3}, nil, 2},
		{"if a != 10 { b = 1; } c = 2;", map[int]int{2: 2}, nil, 2},
		{"if a == 10 { } else { b = 1; }", nil, nil, 1},
		{"if a != 10 { } else { b = 1; }", map[int]int{1: 1}, nil, 2},
		{"if a == 10 { a = 0; } else { a = 1; } if a == 10 { b = 2; } else { b = 3; }", map[int]int{0: 0, 1: 3}, nil, 4},
		{"repeat 4 { a = a + 1; out 0 = a; }", map[int]int{0: 14}, []api.Put{{Value: 11}, {Value: 12}, {Value: 13}, {Value: 14}}, 9},
		{"repeat 1 { a = a + 1; }", map[int]int{0: 11}, nil, 2},
		{"repeat 0 { a = 1; out 0 = 2; work 3; }", nil, nil, 1},
		{"repeat 3 { repeat 2 { a = a + 1; } b = b + 1; }", map[int]int{0: 16, 1: 14}, nil, 13},
		{"repeat 7 { }", nil, nil, 1},
		{"upto 9 while a < 13 { a = a + 1; }", map[int]int{0: 13}, nil, 4},
		{"upto 3 while a < 13 { a = a + 1; }", map[int]int{0: 13}, nil, 4},
		{"upto 2 while a < 13 { a = a + 1; }", map[int]int{0: 12}, nil, 3},
		{"upto 1 while a < 13 { a = a + 1; }", map[int]int{0: 11}, nil, 2},
		{"upto 0 while a < 13 { a = a + 1; }", nil, nil, 1},
		{"upto 9 while a < 10 { a = a + 1; }", nil, nil, 1},
		{"upto 9 while a < 10 { }", nil, nil, 1},
		{"upto 9 while a == 10 { }", nil, nil, 1},
		{"upto 9 while a == 10 { a = 11; b = 1; } c = 1;", map[int]int{0: 11, 1: 1, 2: 1}, nil, 4},
		{"repeat 2 { upto 9 while a != 13 { a = a + 1; } a = 12; }", map[int]int{0: 12}, nil, 1 + 2 + 2 + 3 + 1},
	} {
		want := api.Ended{Vars: slices.Clone(vars[:]), Puts: c.puts, Steps: c.steps}
		for at, v := range c.vars {
			want.Vars[at] = v
		}
		wantEnded(t, c.text, ran(t, c.text, vars, in), want)
	}
}

func TestExample(t *testing.T) {
	got := ran(t, "repeat 3 { a = a + in 0; } out 1 = a * 2;", [8]int{}, [8]int{5})
	wantEnded(t, "the document's example", got, api.Ended{Vars: []int{15, 0, 0, 0, 0, 0, 0, 0}, Puts: []api.Put{{Port: 1, Value: 30}}, Steps: 5})
}

func TestExpressions(t *testing.T) {
	vars := [8]int{1, 10, 100, 1000, 10000, 100000, 1000000, -7}
	in := [8]int{2, 20, math.MinInt, math.MaxInt}
	for _, c := range []struct {
		text string
		want int
	}{
		{"0", 0},
		{"999999999", 999999999},
		{"a", 1},
		{"b", 10},
		{"g", 1000000},
		{"h", -7},
		{"in 0", 2},
		{"in 1", 20},
		{"-5", -5},
		{"-h", 7},
		{"--5", 5},
		{"b + c", 110},
		{"b - c", -90},
		{"b * h", -70},
		{"1 - 2 - 3", -4},
		{"1 - (2 - 3)", 2},
		{"2 + 3 * 4", 14},
		{"(2 + 3) * 4", 20},
		{"-b * c + in 0", -998},
		{"in 3 + 1", math.MinInt},
		{"in 2 - 1", math.MaxInt},
		{"-in 2", math.MinInt},
		{"in 2 * -1", math.MinInt},
		{"in 3 * 2", -2},
		{"in 3 * in 3", 1},
		{"in 2 * in 2", 0},
		{"in 2 + in 2", 0},
		{"in 2 - in 3", 1},
		{"999999999 * 999999999 * 999999999", 8515845249265065471},
	} {
		got := ran(t, "a = "+c.text+"; out 2 = a;", vars, in)
		if got.Vars[0] != c.want || !slices.Equal(got.Puts, []api.Put{{Port: 2, Value: c.want}}) {
			t.Errorf("%s: %v, want %d", c.text, got, c.want)
		}
	}
}

func TestConditions(t *testing.T) {
	in := [8]int{5, 6, math.MinInt, math.MaxInt}
	for _, c := range []struct {
		a, b                     string
		less, same, other, least bool
	}{
		{"in 0", "in 1", true, false, true, false},
		{"in 1", "in 0", false, false, true, true},
		{"in 0", "in 0", false, true, false, true},
		{"-in 0", "in 0", true, false, true, false},
		{"in 2", "in 3", true, false, true, false},
		{"in 3", "in 2", false, false, true, true},
		{"in 3 + 1", "in 2", false, true, false, true},
	} {
		for sign, want := range map[string]bool{"<": c.less, "==": c.same, "!=": c.other, ">=": c.least} {
			cond := c.a + " " + sign + " " + c.b
			got := ran(t, "if "+cond+" { a = 1; } else { a = 2; } upto 1 while "+cond+" { b = 1; }", [8]int{}, in)
			if (got.Vars[0] == 1) != want || (got.Vars[1] == 1) != want {
				t.Errorf("%s: %v, want %v", cond, got.Vars, want)
			}
		}
	}
}

// full takes n steps, of 2 to 20000, and has how many statements is told with it.
func full(n int) (text string, stmts int) {
	if n > 2000 {
		inner := (n - 1000) / 1000
		text = "repeat 1000 { " + strings.Repeat("work 1; ", inner) + "} "
		n -= 1 + 1000*inner
		stmts = 1 + inner
	}
	for n > 1 {
		times := min(n-1, 1000)
		text += fmt.Sprintf("repeat %d { work 1; } ", times)
		n -= 1 + times
		stmts += 2
	}
	if n == 1 {
		text += "work 1; "
		stmts++
	}
	return text, stmts
}

// TestSteps: the last step that may be is done, the next one is told with its statement's number.
func TestSteps(t *testing.T) {
	for _, c := range []struct {
		text  string // what is behind the filling
		steps int
		at    int // which of these statements is the last one that is come to
	}{
		{"a = 1;", 1, 0},
		{"out 0 = 1;", 1, 0},
		{"work 1;", 1, 0},
		{"repeat 0 { work 1; }", 1, 0},
		{"repeat 9 { }", 1, 0},
		{"upto 9 while a < a { work 1; }", 1, 0},
		{"lock 0 { }", 1, 0},
		{"if a < a { work 1; }", 1, 0},
		{"if a == a { b = 1; a = 1; } else { work 1; work 1; }", 3, 2},
		{"if a != a { work 1; work 1; } else { a = 1; b = 2; }", 3, 4},
		{"if a != a { if a == a { work 1; } else { work 2; } work 3; } else { a = 1; }", 2, 5},
		{"a = 1; lock 1 { repeat 3 { b = 1; lock 2 { c = 1; } } }", 12, 5},
		{"repeat 3 { b = 1; work 1; }", 7, 2},
		{"upto 5 while a < 3 { a = a + 1; }", 4, 1},
		{"repeat 2 { if a == a { work 1; } else { work 2; work 3; } work 4; } ", 7, 5},
		{"repeat 0 { work 1; work 2; } if a < a { lock 0 { work 3; } } else { } work 4;", 3, 6},
	} {
		if got := ran(t, c.text, [8]int{}, [8]int{}).Steps; got != c.steps {
			t.Errorf("%s: %d steps, want %d", c.text, got, c.steps)
		}
		fill, _ := full(api.MaxSteps - c.steps)
		if got := ran(t, fill+c.text, [8]int{}, [8]int{}).Steps; got != api.MaxSteps {
			t.Errorf("%s, filled up: %d steps", c.text, got)
		}
		fill, stmts := full(api.MaxSteps - c.steps + 1)
		out, f := meaning.Run(read(t, fill+c.text), make([]int, 8), make([]int, 4))
		wantFault(t, c.text+", one beyond", out, f, api.ErrSteps, stmts+c.at)
	}
}

// TestStepsTold: what comes behind the step too many isn't told, nor what went ahead.
func TestStepsTold(t *testing.T) {
	for _, c := range []struct {
		text string
		at   int
	}{
		{"a = 1; out 0 = 1; repeat 1000 { repeat 1000 { work 1; } } work 1;", 4},
		{"repeat 1000 { repeat 1000 { } a = a + 1; repeat 18 { } " + strings.Repeat("work 1; ", 18) + "}", 8},
		{"upto 1000 while 0 < 1 { upto 1000 while 0 < 1 { out 1 = a; } }", 2},
		{"repeat 1000 { repeat 1000 { repeat 1000 { repeat 1000 { repeat 1000 { repeat 1000 { } } } } } }", 5},
	} {
		out, f := meaning.Run(read(t, c.text), make([]int, 8), make([]int, 4))
		wantFault(t, c.text, out, f, api.ErrSteps, c.at)
	}
}

// TestLoopsOfNothing: loops with nothing in them take no steps, so they must not take long, however much they ask.
func TestLoopsOfNothing(t *testing.T) {
	long := "a" + strings.Repeat(" * a", 14)
	text := "repeat 1000 { " + strings.Repeat("upto 1000 while "+long+" >= "+long+" { } ", 19) + "}"
	began := time.Now()
	got := ran(t, text, [8]int{}, [8]int{})
	if got.Steps != 19001 {
		t.Errorf("%d steps", got.Steps)
	}
	if took := time.Since(began); took > 2*time.Second {
		t.Errorf("it took %v", took)
	}
}

// TestOther: bodies of all kinds leave what another way to do them leaves.
func TestOther(t *testing.T) {
	ended, stopped := 0, 0
	for seed := range int64(1500) {
		m := &maker{rand.New(rand.NewSource(seed)), 1 + int(seed%60), []int{3, 12, 100}[seed%3]}
		var body []api.Stmt
		for len(body) == 0 {
			body = m.list(0, 0)
		}
		vars, in := m.numbers(8), m.numbers(4)
		o := other{Ended: api.Ended{Vars: slices.Clone(vars)}, in: in}
		want, wantF := o.run(body)
		got, f := meaning.Run(body, vars, in)
		if f != wantF || !alike(got, want) {
			t.Fatalf("seed %d: %v %v, want %v %v", seed, got, f, want, wantF)
		}
		if f.Code == api.OK {
			ended++
		} else {
			stopped++
		}
	}
	if ended < 1000 || stopped < 50 {
		t.Errorf("%d ended, %d stopped: too few", ended, stopped)
	}
}

// TestWrong: what Check says of a body comes first, then how many variables and inputs there are.
func TestWrong(t *testing.T) {
	eight, four := make([]int, 8), make([]int, 4)
	num := api.Expr{Kind: api.ENum, N: 1}
	bad := func(s api.Stmt) []api.Stmt {
		return []api.Stmt{{Kind: api.SWork, N: 1}, {Kind: api.SLock, Body: []api.Stmt{s}}, {Kind: 99}}
	}
	for _, c := range []struct {
		what string
		body []api.Stmt
		code api.Errno
		at   int
	}{
		{"kind", bad(api.Stmt{Kind: 8}), api.ErrOp, 2},
		{"number", bad(api.Stmt{Kind: api.SSet, N: 8, E: num}), api.ErrRange, 2},
		{"port", bad(api.Stmt{Kind: api.SOut, N: 4, E: num}), api.ErrRange, 2},
		{"no expression", bad(api.Stmt{Kind: api.SSet}), api.ErrOp, 2},
		{"no such variable", bad(api.Stmt{Kind: api.SSet, E: api.Expr{Kind: api.EVar, N: -1}}), api.ErrRange, 2},
		{"no such input", bad(api.Stmt{Kind: api.SSet, E: api.Expr{Kind: api.EIn, N: 4}}), api.ErrRange, 2},
		{"no operand", bad(api.Stmt{Kind: api.SSet, E: api.Expr{Kind: api.ENeg}}), api.ErrOp, 2},
		{"no condition", bad(api.Stmt{Kind: api.SIf}), api.ErrOp, 2},
		{"lock twice", bad(api.Stmt{Kind: api.SLock}), api.ErrLock, 2},
		{"never come to", []api.Stmt{{Kind: api.SRepeat, Body: []api.Stmt{{Kind: api.SWork}}}}, api.ErrRange, 1},
		{"too many", slices.Repeat([]api.Stmt{{Kind: api.SWork, N: 1}}, 201), api.ErrMany, 0},
	} {
		out, f := meaning.Run(c.body, eight, four)
		wantFault(t, c.what, out, f, c.code, c.at)
		out, f = meaning.Run(c.body, nil, nil)
		wantFault(t, c.what+", without variables", out, f, c.code, c.at)
	}
	within := make([]api.Stmt, 1)
	within[0] = api.Stmt{Kind: api.SRepeat, N: 1, Body: within}
	out, f := meaning.Run(within, eight, four)
	wantFault(t, "within itself", out, f, api.ErrMany, 0)
}

func TestVariablesAndInputs(t *testing.T) {
	body := read(t, "work 1; a = 1;")
	endless := read(t, "repeat 1000 { repeat 1000 { work 1; } }")
	for vars := range 18 {
		for in := range 10 {
			for _, b := range [][]api.Stmt{body, endless, nil} {
				out, f := meaning.Run(b, make([]int, vars), make([]int, in))
				if vars == 8 && in == 4 {
					if (f.Code == api.ErrRange) || (f.Code == api.OK) != (len(out.Vars) == 8) {
						t.Errorf("8 and 4: %v %v", out, f)
					}
					continue
				}
				wantFault(t, fmt.Sprint(vars, " and ", in), out, f, api.ErrRange, 0)
			}
		}
	}
	out, f := meaning.Run(nil, make([]int, 0, 8), make([]int, 4))
	wantFault(t, "room for variables", out, f, api.ErrRange, 0)
}

// TestMemory: what is handed in stays as it is, with its spare room, and the answer is new.
func TestMemory(t *testing.T) {
	room := read(t, "repeat 2 { a = a + in 0 * b; if a < b { out 0 = a; } else { b = -b; } } lock 0 { upto 3 while c != 3 { c = c + 1; } } work 5;")
	room[0].Body = append(room[0].Body, api.Stmt{Kind: 77})[:len(room[0].Body)]
	body := room[:2]
	vars := []int{1, 2, 3, 4, 5, 6, 7, 8, 9, 10}
	in := []int{1, 2, 3, 4, 5, 6}
	before := told(body)
	for range 2 {
		out, f := meaning.Run(body, vars[:8], in[:4])
		if f != (api.Fault{}) {
			t.Fatal(f)
		}
		for i := range out.Vars {
			out.Vars[i] = -1
		}
		_ = append(out.Vars, -1, -1)
		for i := range out.Puts {
			out.Puts[i] = api.Put{}
		}
		if told(body) != before || fmt.Sprint(vars, in) != "[1 2 3 4 5 6 7 8 9 10] [1 2 3 4 5 6]" {
			t.Fatalf("changed: %v %v %v", body, vars, in)
		}
	}
	numbers := []int{9, 8, 7, 6, 5, 4, 3, 2}
	out, _ := meaning.Run(read(t, "a = in 3; b = in 0;"), numbers, numbers[:4])
	wantEnded(t, "inputs that are variables, too", out, api.Ended{Vars: []int{6, 9, 7, 6, 5, 4, 3, 2}, Steps: 2})
}

// TestEmptyLists: lists that have nothing in them may be nil or empty.
func TestEmptyLists(t *testing.T) {
	no := []api.Expr{}
	none := api.Cond{A: api.Expr{A: no}, B: api.Expr{A: no}}
	body := []api.Stmt{
		{Kind: api.SSet, E: api.Expr{Kind: api.ENum, N: 4, A: no}, If: none, Body: []api.Stmt{}, Else: []api.Stmt{}},
		{Kind: api.SRepeat, N: 3, E: api.Expr{A: no}, If: none, Body: []api.Stmt{}, Else: []api.Stmt{}},
	}
	out, f := meaning.Run(body, make([]int, 8), make([]int, 4))
	if f != (api.Fault{}) || out.Vars[0] != 4 || out.Steps != 2 || len(out.Puts) != 0 {
		t.Errorf("%v %v", out, f)
	}
	out, f = meaning.Run([]api.Stmt{}, make([]int, 8), make([]int, 4))
	if f != (api.Fault{}) || len(out.Vars) != 8 || out.Steps != 0 || len(out.Puts) != 0 {
		t.Errorf("nothing to do: %v %v", out, f)
	}
}
