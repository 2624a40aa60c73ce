package tongue_test

import (
	"strings"
	"testing"

	"punctual/api"
	"punctual/tongue"
)

func TestPrint(t *testing.T) {
	for _, lines := range [][]string{
		{},
		{"h = 999999999;"},
		{"out 3 = 0;"},
		{"work 1000;"},
		{"repeat 0 {", "}"},
		{"lock 3 {", "\twork 1;", "\twork 2;", "}", "work 3;"},
		{"if a < b {", "}"},
		{"if a == b {", "\twork 1;", "}"},
		{"if a != b {", "} else {", "\twork 1;", "}"},
		{"upto 1000 while a >= b {", "\tif a < -1 {", "\t\twork 1;", "\t} else {", "\t\twork 2;", "\t\tlock 0 {", "\t\t}", "\t}", "\tout 0 = a;", "}", "a = in 3;"},
		{"repeat 1 {", "\trepeat 1 {", "\t\trepeat 1 {", "\t\t\trepeat 1 {", "\t\t\t\trepeat 1 {", "\t\t\t\t\trepeat 1 {", "\t\t\t\t\t\twork 1;", "\t\t\t\t\t}", "\t\t\t\t}", "\t\t\t}", "\t\t}", "\t}", "}"},
		{"if (a + b) * c < -(a - 1) {", "}"},
	} {
		text := ""
		for _, l := range lines {
			text += l + "\n"
		}
		if got := tongue.Print(read(t, strings.Join(strings.Fields(text), " "))); got != text {
			t.Errorf("%q, want %q", got, text)
		}
	}
}

func TestPrintExpressions(t *testing.T) {
	a, b, c := variable(0), variable(1), variable(2)
	for _, x := range []struct {
		e    api.Expr
		want string
	}{
		{two(api.EAdd, two(api.EAdd, a, b), c), "a + b + c"},
		{two(api.EAdd, a, two(api.EAdd, b, c)), "a + (b + c)"},
		{two(api.EAdd, a, two(api.ESub, b, c)), "a + (b - c)"},
		{two(api.ESub, two(api.ESub, a, b), c), "a - b - c"},
		{two(api.ESub, a, two(api.EAdd, b, c)), "a - (b + c)"},
		{two(api.EMul, a, two(api.EMul, b, c)), "a * (b * c)"},
		{two(api.EMul, two(api.EMul, a, b), c), "a * b * c"},
		{two(api.EMul, two(api.EAdd, a, b), c), "(a + b) * c"},
		{two(api.EMul, a, two(api.ESub, b, c)), "a * (b - c)"},
		{two(api.EAdd, a, two(api.EMul, b, c)), "a + b * c"},
		{two(api.ESub, two(api.EMul, a, b), c), "a * b - c"},
		{neg(a), "-a"},
		{neg(num(5)), "-5"},
		{neg(input(2)), "-in 2"},
		{neg(neg(a)), "--a"},
		{neg(neg(two(api.EAdd, a, b))), "--(a + b)"},
		{neg(two(api.EMul, a, b)), "-(a * b)"},
		{two(api.EMul, neg(a), neg(b)), "-a * -b"},
		{two(api.ESub, neg(a), neg(b)), "-a - -b"},
		{two(api.ESub, a, neg(two(api.ESub, neg(b), c))), "a - -(-b - c)"},
	} {
		if got := tongue.Print(list(set(x.e))); got != "a = "+x.want+";\n" {
			t.Errorf("%q, want %q", got, x.want)
		}
	}
}

func TestPrintNothing(t *testing.T) {
	cyclic := list(repeat())
	cyclic[0].Body = cyclic
	for _, body := range [][]api.Stmt{
		nil, {}, {{}}, {work(1), {Kind: 9}}, {work(0)}, works(201), {lock(1, lock(1))}, within(7, nil), {set(chain(31, num(1)))}, {set(num(-1))}, cyclic,
	} {
		if got := tongue.Print(body); got != "" {
			t.Errorf("%q", got)
		}
	}
}

// TestPrintIsRead: what is written is read as the same body.
func TestPrintIsRead(t *testing.T) {
	for seed := range int64(1000) {
		body := made(seed)
		text := tongue.Print(body)
		if got := read(t, text); !alike(got, body) {
			t.Fatalf("%q: %v, want %v", text, got, body)
		}
		if got := laidOut(text); got != text {
			t.Fatalf("%q, want %q", text, got)
		}
	}
}

// laidOut writes a text anew, token by token, with the blanks and lines that the chapter asks for.
func laidOut(text string) string {
	for _, s := range strings.Split("( ) { } ; + * <", " ") {
		text = strings.ReplaceAll(text, s, " "+s+" ")
	}
	text = strings.ReplaceAll(text, "-", " - ")
	out, deep, last, unary := "", 0, "\n", false
	for _, token := range strings.Fields(text) {
		if token == "}" {
			deep--
		}
		if token == "else" {
			out, last = strings.TrimSuffix(out, "\n"), "}"
		}
		switch {
		case last == "\n":
			out += strings.Repeat("\t", deep)
		case token != ";" && token != ")" && last != "(" && !unary:
			out += " "
		}
		unary = token == "-" && strings.Contains(" = < == != >= + - * ( if while ", " "+last+" ")
		out, last = out+token, token
		if token == "{" {
			deep++
		}
		if token == "{" || token == "}" || token == ";" {
			out, last = out+"\n", "\n"
		}
	}
	return out
}

// trees are all expressions with n operators, the leaves of which are variables.
func trees(n int) []api.Expr {
	if n == 0 {
		return []api.Expr{variable(0)}
	}
	var l []api.Expr
	for _, e := range trees(n - 1) {
		l = append(l, neg(e))
	}
	for left := range n {
		for _, a := range trees(left) {
			for _, b := range trees(n - 1 - left) {
				l = append(l, two(api.EAdd, a, b), two(api.ESub, a, b), two(api.EMul, a, b))
			}
		}
	}
	return l
}

// TestPrintBrackets: all small expressions, wherever one may stand.
func TestPrintBrackets(t *testing.T) {
	for n := range 5 {
		for _, e := range trees(n) {
			wantFewBrackets(t, list(set(e)))
			wantFewBrackets(t, list(api.Stmt{Kind: api.SOut, E: e}))
			wantFewBrackets(t, list(api.Stmt{Kind: api.SIf, If: less(e, num(1))}))
			wantFewBrackets(t, list(api.Stmt{Kind: api.SWhile, If: less(num(1), e)}))
		}
	}
	for seed := range int64(100) {
		wantFewBrackets(t, made(seed))
	}
}

// wantFewBrackets takes each pair of brackets away: without it the text must be read as another body.
func wantFewBrackets(t *testing.T, body []api.Stmt) {
	t.Helper()
	text := tongue.Print(body)
	if got := read(t, text); !alike(got, body) {
		t.Fatalf("%q: %v, want %v", text, got, body)
	}
	for at, c := range text {
		if c != '(' {
			continue
		}
		end := closing(text, at)
		without := text[:at] + " " + text[at+1:end] + " " + text[end+1:]
		if got, f := tongue.Parse(without); f.Code == api.OK && alike(got, body) {
			t.Fatalf("%q: the brackets at %d", text, at)
		}
	}
}

// closing is the place of the bracket that belongs to the one at a place.
func closing(text string, at int) int {
	open := 0
	for i := at; ; i++ {
		switch text[i] {
		case '(':
			open++
		case ')':
			open--
		}
		if open == 0 {
			return i
		}
	}
}

// TestPrintLong: a body may need a longer text than Parse takes; it is written all the same.
func TestPrintLong(t *testing.T) {
	e := num(999999999)
	for range 14 {
		e = two(api.EAdd, e, num(999999999))
	}
	var body []api.Stmt
	for range api.MaxStmts {
		body = append(body, set(e))
	}
	want := strings.Repeat("a = 999999999"+strings.Repeat(" + 999999999", 14)+";\n", api.MaxStmts)
	if got := tongue.Print(body); got != want {
		t.Errorf("%d bytes, want %d", len(got), len(want))
	}
}
