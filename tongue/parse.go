package tongue

import (
	"strconv"

	"punctual/api"
)

// Parse reads a body.
func Parse(text string) ([]api.Stmt, api.Fault) {
	if len(text) > api.MaxText {
		return nil, api.Fault{Code: api.ErrMany}
	}
	body, fault := read(text)
	if fault.Code == api.OK {
		fault = Check(body)
	}
	if fault.Code != api.OK {
		return nil, fault
	}
	return body, fault
}

// read reads a body by the grammar alone. What the reader throws is told here; anything else isn't its own, and goes on.
func read(text string) (body []api.Stmt, fault api.Fault) {
	defer func() {
		switch thrown := recover().(type) {
		case nil:
		case misread:
			body, fault = nil, api.Fault{Code: api.ErrText, At: int(thrown)}
		default:
			panic(thrown)
		}
	}()
	r := begin(text)
	body = r.body()
	if r.token != "" {
		r.refuse()
	}
	return body, fault
}

// body reads statements up to the end of a block, or of the text.
func (r *reader) body() []api.Stmt {
	var list []api.Stmt
	for r.token != "}" && r.token != "" {
		list = append(list, r.stmt())
	}
	return list
}

func (r *reader) block() []api.Stmt {
	r.take("{")
	list := r.body()
	r.take("}")
	return list
}

func (r *reader) stmt() api.Stmt {
	switch {
	case r.skip("out"):
		return r.value(api.SOut, r.number())
	case r.skip("if"):
		return r.choice()
	case r.skip("repeat"):
		return api.Stmt{Kind: api.SRepeat, N: r.number(), Body: r.block()}
	case r.skip("upto"):
		return r.loop()
	case r.skip("lock"):
		return api.Stmt{Kind: api.SLock, N: r.number(), Body: r.block()}
	case r.skip("work"):
		s := api.Stmt{Kind: api.SWork, N: r.number()}
		r.take(";")
		return s
	}
	return r.value(api.SSet, r.variable())
}

// value reads what goes to a variable or a port, behind its name.
func (r *reader) value(kind, n int) api.Stmt {
	r.take("=")
	s := api.Stmt{Kind: kind, N: n, E: r.sum()}
	r.take(";")
	return s
}

func (r *reader) choice() api.Stmt {
	s := api.Stmt{Kind: api.SIf, If: r.cond(), Body: r.block()}
	if r.skip("else") {
		s.Else = r.block()
	}
	return s
}

func (r *reader) loop() api.Stmt {
	most := r.number()
	r.take("while")
	return api.Stmt{Kind: api.SWhile, N: most, If: r.cond(), Body: r.block()}
}

func (r *reader) cond() api.Cond {
	a := r.sum()
	kind := r.operator(map[string]int{"<": api.Less, "==": api.Same, "!=": api.Other, ">=": api.Least})
	if kind == 0 {
		r.refuse()
	}
	return api.Cond{Kind: kind, A: a, B: r.sum()}
}

func (r *reader) sum() api.Expr {
	return r.chain(r.prod, map[string]int{"+": api.EAdd, "-": api.ESub})
}

func (r *reader) prod() api.Expr {
	return r.chain(r.unit, map[string]int{"*": api.EMul})
}

// chain reads parts with operators between them, which group to the left.
func (r *reader) chain(part func() api.Expr, kinds map[string]int) api.Expr {
	e := part()
	for kind := r.operator(kinds); kind != 0; kind = r.operator(kinds) {
		e = api.Expr{Kind: kind, A: []api.Expr{e, part()}}
	}
	return e
}

// operator goes past one of some operators, and is its kind; 0 if there is none.
func (r *reader) operator(kinds map[string]int) int {
	kind := kinds[r.token]
	if kind != 0 {
		r.step()
	}
	return kind
}

func (r *reader) unit() api.Expr {
	switch {
	case r.skip("-"):
		return api.Expr{Kind: api.ENeg, A: []api.Expr{r.unit()}}
	case r.skip("("):
		e := r.sum()
		r.take(")")
		return e
	case r.skip("in"):
		return api.Expr{Kind: api.EIn, N: r.number()}
	case r.isNumber():
		return api.Expr{Kind: api.ENum, N: r.number()}
	}
	return api.Expr{Kind: api.EVar, N: r.variable()}
}

// variable reads a variable's name, and is its number.
func (r *reader) variable() int {
	if len(r.token) != 1 || r.token < "a" || r.token > "h" {
		r.refuse()
	}
	n := int(r.token[0] - 'a')
	r.step()
	return n
}

func (r *reader) isNumber() bool { return r.token != "" && isDigit(r.token[0]) }

func (r *reader) number() int {
	if !r.isNumber() {
		r.refuse()
	}
	// It has digits alone, and few enough: nothing can go wrong.
	n, _ := strconv.Atoi(r.token)
	r.step()
	return n
}
