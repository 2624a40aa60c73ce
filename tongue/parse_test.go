package tongue_test

import (
	"math/rand"
	"reflect"
	"strings"
	"testing"

	"punctual/api"
	"punctual/tongue"
)

func TestParseStatements(t *testing.T) {
	for _, c := range []struct {
		text string
		want api.Stmt
	}{
		{"c = 7;", api.Stmt{Kind: api.SSet, N: 2, E: num(7)}},
		{"a = b;", api.Stmt{Kind: api.SSet, N: 0, E: variable(1)}},
		{"h = in 3;", api.Stmt{Kind: api.SSet, N: 7, E: input(3)}},
		{"out 2 = h;", api.Stmt{Kind: api.SOut, N: 2, E: variable(7)}},
		{"if a < 1 { work 2; }", api.Stmt{Kind: api.SIf, If: less(variable(0), num(1)), Body: list(work(2))}},
		{"if a < 1 { work 2; } else { work 3; work 4; }", api.Stmt{Kind: api.SIf, If: less(variable(0), num(1)), Body: list(work(2)), Else: list(work(3), work(4))}},
		{"if a < 1 { } else { work 3; }", api.Stmt{Kind: api.SIf, If: less(variable(0), num(1)), Else: list(work(3))}},
		{"if a < 1 { work 2; } else { }", api.Stmt{Kind: api.SIf, If: less(variable(0), num(1)), Body: list(work(2))}},
		{"repeat 0 { }", api.Stmt{Kind: api.SRepeat}},
		{"repeat 1000 { work 1; }", api.Stmt{Kind: api.SRepeat, N: 1000, Body: works(1)}},
		{"upto 4 while a == 0 { work 1; }", api.Stmt{Kind: api.SWhile, N: 4, If: api.Cond{Kind: api.Same, A: variable(0), B: num(0)}, Body: works(1)}},
		{"upto 4 while a != 0 { }", api.Stmt{Kind: api.SWhile, N: 4, If: api.Cond{Kind: api.Other, A: variable(0), B: num(0)}}},
		{"if a >= 0 { }", api.Stmt{Kind: api.SIf, If: api.Cond{Kind: api.Least, A: variable(0), B: num(0)}}},
		{"lock 3 { work 1; }", lock(3, work(1))},
		{"work 1000;", work(1000)},
	} {
		if got := read(t, c.text); !alike(got, list(c.want)) {
			t.Errorf("%q: %v, want %v", c.text, got, c.want)
		}
		if got := read(t, "work 9;"+c.text+c.text); !alike(got, list(work(9), c.want, c.want)) {
			t.Errorf("%q, twice: %v", c.text, got)
		}
	}
}

func TestParseExpressions(t *testing.T) {
	a, b, c, d := variable(0), variable(1), variable(2), variable(3)
	for _, x := range []struct {
		text string
		want api.Expr
	}{
		{"0", num(0)},
		{"999999999", num(999999999)},
		{"(((a)))", a},
		{"a + b + c", two(api.EAdd, two(api.EAdd, a, b), c)},
		{"a - b - c", two(api.ESub, two(api.ESub, a, b), c)},
		{"a - b + c", two(api.EAdd, two(api.ESub, a, b), c)},
		{"a - (b + c)", two(api.ESub, a, two(api.EAdd, b, c))},
		{"a * b * c", two(api.EMul, two(api.EMul, a, b), c)},
		{"a * (b * c)", two(api.EMul, a, two(api.EMul, b, c))},
		{"a + b * c - d", two(api.ESub, two(api.EAdd, a, two(api.EMul, b, c)), d)},
		{"a * b + c * d", two(api.EAdd, two(api.EMul, a, b), two(api.EMul, c, d))},
		{"(a + b) * c", two(api.EMul, two(api.EAdd, a, b), c)},
		{"-a", neg(a)},
		{"-5", neg(num(5))},
		{"--a", neg(neg(a))},
		{"-a * b", two(api.EMul, neg(a), b)},
		{"a * -b", two(api.EMul, a, neg(b))},
		{"-(a * b)", neg(two(api.EMul, a, b))},
		{"-a - -b", two(api.ESub, neg(a), neg(b))},
		{"a--b", two(api.ESub, a, neg(b))},
		{"-in 2 * in 1", two(api.EMul, neg(input(2)), input(1))},
	} {
		if got := read(t, "a = "+x.text+";"); !alike(got, list(set(x.want))) {
			t.Errorf("%q: %v, want %v", x.text, got, x.want)
		}
		if got := read(t, "if "+x.text+" < "+x.text+"{}"); !alike(got, list(api.Stmt{Kind: api.SIf, If: less(x.want, x.want)})) {
			t.Errorf("%q, twice: %v", x.text, got)
		}
	}
}

func TestParseBlanks(t *testing.T) {
	want := read(t, "if a >= in 0 { out 1 = -b * 20; } else { work 3; }")
	for _, text := range []string{
		"if a>=in 0{out 1=-b*20;}else{work 3;}",
		"if a>=in0{out1=-b*20;}else{work3;}",
		"\r\n\t if\ta\n>=\rin\t0\n{\nout  1\r\n=\t-\nb\t*\t20\n;\t}\nelse\n{\twork\n3\n;\n}\n \t\r\n",
	} {
		if got := read(t, text); !alike(got, want) {
			t.Errorf("%q: %v", text, got)
		}
	}
	for _, text := range []string{"", " ", "\t\r\n "} {
		if got := read(t, text); len(got) != 0 {
			t.Errorf("%q: %v", text, got)
		}
	}
}

func TestParseRefuses(t *testing.T) {
	for _, c := range []struct {
		text string
		at   int
	}{
		// what begins no token
		{"A = 1;", 0}, {"a = 1; ?", 7}, {"a = 1.5;", 5}, {"a = b / c;", 6}, {"a = 1 > 2;", 6}, {"a = 1 ! 2;", 6}, {"a\v= 1;", 1}, {"a\f= 1;", 1},
		{"a =\u00a01;", 3}, {"ä = 1;", 0}, {"a = \x00;", 4}, {"a = \xff;", 4}, {"// a", 0}, {"a = 1;_", 6}, {"a = \"b\";", 4}, {"a ! = 1;", 2}, {"if a > = b { }", 5}, {"if a ! = b { }", 5},
		// numbers
		{"a = 01;", 4}, {"a = 00;", 4}, {"a = 0123456789;", 4}, {"a = 1234567890;", 4}, {"a = 12345678901234567890123;", 4}, {"work 0001;", 5}, {"a = 1 + 01;", 8},
		{"a = 1 2;", 6}, {"a = 1 01;", 6}, {"01 = a;", 0}, {"work 1 000;", 7}, {"a = 0x1;", 5}, {"a = 1e3;", 5}, {"a = +1;", 4}, {"a = -;", 5},
		// words
		{"i = 1;", 0}, {"z = 1;", 0}, {"az = 1;", 0}, {"ab = 1;", 0}, {"aa = 1;", 0}, {"outs 1 = 2;", 0}, {"a = i;", 4}, {"a = ab;", 4}, {"a = out;", 4}, {"a = in b;", 7}, {"a = in;", 6}, {"a = in in 1;", 7},
		{"in 0 = a;", 0}, {"while a < b { }", 0}, {"else { }", 0}, {"upto 3 a < b { }", 7}, {"upto 3 while { }", 13}, {"upto 3 whilea < b { }", 7}, {"upto a while a < b { }", 5}, {"ifa < b { }", 0}, {"out a = 1;", 4}, {"out = 1;", 4}, {"repeat a { }", 7}, {"repeat { }", 7}, {"lock { }", 5}, {"lock a { }", 5}, {"work ;", 5}, {"work a;", 5}, {"work -1;", 5}, {"repeat (1) { }", 7},
		// signs
		{"a == 1;", 2}, {"a =- ;", 5}, {"a == -1;", 2}, {"a = = 1;", 4}, {"a < 1;", 2}, {"a 1;", 2}, {"a;", 1}, {";", 0}, {"a = 1;;", 6}, {"a = ;", 4}, {"a = ();", 5}, {"a = (1;", 6}, {"a = 1);", 5}, {"a = (a < b);", 7}, {"a = a < b;", 6},
		{"a = 1 + ;", 8}, {"a = 1 + + 2;", 8}, {"a = 1 * * 2;", 8}, {"a = * 2;", 4}, {"a = 1 - * 2;", 8}, {"a = { 1 };", 4}, {"= 1;", 0}, {"(a) = 1;", 0}, {"work 1 + 1;", 7}, {"work (1);", 5},
		{"if a { }", 5}, {"if a = b { }", 5}, {"if (a < b) { }", 6}, {"if a < b < c { }", 9}, {"if a == b == c { }", 10}, {"if a < b work 1;", 9}, {"if a < b;", 8}, {"if < b { }", 3}, {"if a < { }", 7}, {"if a <= b { }", 6}, {"if a === b { }", 7}, {"if a !== b { }", 7},
		// blocks
		{"}", 0}, {"{ }", 0}, {"{ work 1; }", 0}, {"work 1; }", 8}, {"repeat 1 { } }", 13}, {"repeat 1 work 1;", 9}, {"lock 1;", 6}, {"lock 1 { } else { }", 11}, {"repeat 1 { } else { }", 13}, {"if a < b { } else work 1;", 18}, {"if a < b { } else if a < b { }", 18}, {"if a < b { } else { } else { }", 22}, {"if a < b { else { } }", 11},
		// the end
		{"a", 1}, {"a ", 2}, {"a =", 3}, {"a = 1", 5}, {"a = 1 \n", 7}, {"a = -", 5}, {"a = (", 5}, {"a = (1", 6}, {"a = (1)", 7}, {"a = in", 6}, {"a = 1 +", 7}, {"out", 3}, {"out 1", 5}, {"if", 2}, {"if a", 4}, {"if a <", 6}, {"if a < b", 8}, {"if a < b {", 10}, {"if a < b { work 1; ", 19}, {"if a < b { } else", 17}, {"if a < b { } else {", 19}, {"repeat", 6}, {"repeat 1", 8}, {"repeat 1 {", 10}, {"upto", 4}, {"upto 1", 6}, {"upto 1 while", 12}, {"lock", 4}, {"lock 1", 6}, {"work", 4}, {"work 1", 6}, {"work 1  ", 8},
		// a text that is wrong is told ahead of a body that is wrong, wherever they stand
		{"work 0; work", 12}, {"out 9 = in 9; a", 15}, {"lock 1 { lock 1 { } } ?", 22},
	} {
		body, f := tongue.Parse(c.text)
		wantFault(t, c.text, f, api.ErrText, c.at)
		if body != nil {
			t.Errorf("%q: %v", c.text, body)
		}
	}
}

// TestParseChecks: what is written rightly is looked over as a body, too.
func TestParseChecks(t *testing.T) {
	for _, c := range []struct {
		text string
		code api.Errno
		at   int
	}{
		{"out 3 = 1;", api.OK, 0}, {"out 4 = 1;", api.ErrRange, 0}, {"a = in 4;", api.ErrRange, 0}, {"a = in 999999999;", api.ErrRange, 0},
		{"work 0;", api.ErrRange, 0}, {"work 1001;", api.ErrRange, 0}, {"work 1; repeat 1001 { }", api.ErrRange, 1}, {"upto 1001 while a < b { }", api.ErrRange, 0}, {"lock 4 { }", api.ErrRange, 0},
		{"if a < b { work 1; work 0; } else { out 4 = 1; }", api.ErrRange, 2}, {"if a < b { work 1; } else { out 4 = 1; }", api.ErrRange, 2}, {"if a < in 4 { lock 9 { } }", api.ErrRange, 0},
		{"lock 1 { lock 1 { } }", api.ErrLock, 1}, {"lock 1 { } lock 1 { }", api.OK, 0}, {"lock 1 { repeat 2 { lock 2 { lock 1 { } } } }", api.ErrLock, 3},
		{strings.Repeat("repeat 1 {", 6) + "work 1;" + strings.Repeat("}", 6), api.OK, 0},
		{strings.Repeat("repeat 1 {", 7) + strings.Repeat("}", 7), api.ErrMany, 6},
		{strings.Repeat("work 1;", 200), api.OK, 0},
		{strings.Repeat("work 1;", 201), api.ErrMany, 0},
		{strings.Repeat("work 0;", 201), api.ErrMany, 0},
		{"work 1; a = 1" + strings.Repeat(" + 1", 14) + ";", api.OK, 0},
		{"work 1; a = 1" + strings.Repeat(" + 1", 15) + ";", api.ErrMany, 1},
		{"a = " + strings.Repeat("-", 29) + "1;", api.OK, 0},
		{"a = " + strings.Repeat("-", 30) + "1;", api.ErrMany, 0},
		{"a = " + strings.Repeat("(", 90) + "1" + strings.Repeat(")", 90) + ";", api.OK, 0},
	} {
		body, f := tongue.Parse(c.text)
		wantFault(t, c.text, f, c.code, c.at)
		if f.Code != api.OK && body != nil {
			t.Errorf("%q: %v", c.text, body)
		}
	}
}

// TestParseLongTexts: as long as may be, as deep as may be.
func TestParseLongTexts(t *testing.T) {
	const most = api.MaxText
	blank := strings.Repeat(" ", most-7)
	for _, c := range []struct {
		what, text string
		code       api.Errno
		at         int
	}{
		{"20000 bytes", "work 1;" + blank, api.OK, 0},
		{"20001 bytes", "work 1;" + blank + " ", api.ErrMany, 0},
		{"20001 bytes that aren't a text", "?" + blank + "       ", api.ErrMany, 0},
		{"20000 bytes and no end", "work 1 " + blank, api.ErrText, most},
		{"brackets", "a = " + strings.Repeat("(", most-4), api.ErrText, most},
		{"opposites", "a = " + strings.Repeat("-", most-4), api.ErrText, most},
		{"opposites of a number", "a = " + strings.Repeat("-", most-6) + "1;", api.ErrMany, 0},
		{"a long sum", "a = 1" + strings.Repeat("+1", most/2-3) + ";", api.ErrMany, 0},
		{"blocks", strings.Repeat("lock 0{", 2500) + strings.Repeat("}", 2500), api.ErrMany, 0},
		{"open blocks", strings.Repeat("lock 0{", 2500), api.ErrText, 17500},
		{"digits", "a=" + strings.Repeat("1", most-2), api.ErrText, 2},
		{"letters", strings.Repeat("a", most), api.ErrText, 0},
	} {
		_, f := tongue.Parse(c.text)
		wantFault(t, c.what, f, c.code, c.at)
	}
}

// TestParseAnswersNewMemory: no list of a body reaches into another one.
func TestParseAnswersNewMemory(t *testing.T) {
	for seed := range int64(50) {
		text := tongue.Print(made(seed))
		body, other := read(t, text), read(t, text)
		spoil(body)
		if got := tongue.Print(body); got != text {
			t.Fatalf("%q became %q", text, got)
		}
		for i := range body {
			body[i] = work(77)
		}
		if got := tongue.Print(other); got != text {
			t.Fatalf("%q became %q", text, got)
		}
	}
}

// spoil writes into the spare room of all lists.
func spoil(l []api.Stmt) {
	for i := len(l); i < cap(l); i++ {
		l[:cap(l)][i] = work(77)
	}
	for _, s := range l {
		spoilExpr(s.E)
		spoilExpr(s.If.A)
		spoilExpr(s.If.B)
		spoil(s.Body)
		spoil(s.Else)
	}
}

func spoilExpr(e api.Expr) {
	for i := len(e.A); i < cap(e.A); i++ {
		e.A[:cap(e.A)][i] = num(77)
	}
	for _, x := range e.A {
		spoilExpr(x)
	}
}

// grammar is the chapter's, its 'any number of times' and 'once or not' written out.
func grammar() map[string][][]string {
	lines := map[string]string{
		"BODY":  "| STMT BODY",
		"BLOCK": "{ BODY }",
		"STMT":  "VAR = SUM ; | out NUM = SUM ; | if COND BLOCK | if COND BLOCK else BLOCK | repeat NUM BLOCK | upto NUM while COND BLOCK | lock NUM BLOCK | work NUM ;",
		"COND":  "SUM < SUM | SUM == SUM | SUM != SUM | SUM >= SUM",
		"SUM":   "PROD SUMS",
		"SUMS":  "| + PROD SUMS | - PROD SUMS",
		"PROD":  "UNIT PRODS",
		"PRODS": "| * UNIT PRODS",
		"UNIT":  "NUM | VAR | in NUM | - UNIT | ( SUM )",
		"VAR":   "a | b | h",
		"NUM":   "0 | 1 | 2 | 999999999",
	}
	g := map[string][][]string{}
	for left, right := range lines {
		for _, p := range strings.Split(right, "|") {
			g[left] = append(g[left], strings.Fields(p))
		}
	}
	return g
}

// behind is what may be left of each of the ways to go on, when a token is read; each way is a list of symbols.
func behind(g map[string][][]string, ways map[string]bool, token string) map[string]bool {
	next := map[string]bool{}
	var expand func(way string)
	expand = func(way string) {
		head, rest, _ := strings.Cut(way, " ")
		if _, more := g[head]; !more {
			if head == token {
				next[rest] = true
			}
			return
		}
		for _, p := range g[head] {
			expand(strings.TrimSpace(strings.Join(p, " ") + " " + rest))
		}
	}
	for way := range ways {
		expand(way)
	}
	return next
}

// TestParseAgainstGrammar: texts of tokens, each held against all ways that the grammar leaves open. The first token behind which none is left is the one that is told.
func TestParseAgainstGrammar(t *testing.T) {
	g := grammar()
	all := strings.Fields("a b h z 0 1 2 999999999 1000000000 01 in out if else repeat upto while lock work == != >= = < + - * ( ) { } ; ? >")
	r := rand.New(rand.NewSource(1))
	for range 6000 {
		ways := map[string]bool{"BODY": true}
		text, at, wrong := "", 0, false
		for n := r.Intn(25); n > 0 && !wrong; n-- {
			token := all[r.Intn(len(all))]
			// Else most texts would end at their first or second token.
			for tries := 0; tries < 30 && len(behind(g, ways, token)) == 0; tries++ {
				token = all[r.Intn(len(all))]
			}
			at = len(text)
			text += token + " "
			ways = behind(g, ways, token)
			wrong = len(ways) == 0
		}
		if !wrong && len(behind(g, withEnd(ways), "END")) == 0 {
			at, wrong = len(text), true
		}
		_, f := tongue.Parse(text)
		if wrong {
			wantFault(t, text, f, api.ErrText, at)
		} else if f.Code == api.ErrText {
			t.Errorf("%q: %v", text, f)
		}
	}
}

// withEnd: as a token of its own, the end can be asked for like any other.
func withEnd(ways map[string]bool) map[string]bool {
	ended := map[string]bool{}
	for way := range ways {
		ended[strings.TrimSpace(way+" END")] = true
	}
	return ended
}

// FuzzParse: any text is answered, and a body that was read is written so that it is read again.
func FuzzParse(f *testing.F) {
	f.Add("repeat 3 { a = a + in 0; } out 1 = a * 2;")
	f.Add("if a - (b - 1) >= -(c + 2) * 3 { work 5; } else { lock 2 { upto 4 while a != 0 { a = a - 1; } } }")
	f.Fuzz(func(t *testing.T, text string) {
		body, fault := tongue.Parse(text)
		if fault.Code != api.OK {
			if body != nil || fault.At < 0 || fault.At > len(text) {
				t.Fatalf("%q: %v, %v", text, body, fault)
			}
			return
		}
		again, fault := tongue.Parse(tongue.Print(body))
		if fault.Code != api.ErrMany && !reflect.DeepEqual(again, body) {
			t.Fatalf("%q: %v, then %v, %v", text, body, again, fault)
		}
	})
}
