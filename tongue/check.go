package tongue

import "punctual/api"

// maxNodes is how many nodes an expression may have.
const maxNodes = 30

// shape is what a statement of a kind has: N from least to most, and which of its parts.
type shape struct {
	least, most               int
	value, cond, inner, other bool
}

var shapes = [...]shape{
	api.SSet:    {most: 7, value: true},
	api.SOut:    {most: 3, value: true},
	api.SIf:     {cond: true, inner: true, other: true},
	api.SRepeat: {most: api.MaxCount, inner: true},
	api.SWhile:  {most: api.MaxCount, cond: true, inner: true},
	api.SLock:   {most: 3, inner: true},
	api.SWork:   {least: 1, most: api.MaxWork},
}

// form is what an expression of a kind has: N up to most, and so many operands.
type form struct {
	most, operands int
}

var forms = [...]form{
	api.ENum: {most: 999999999},
	api.EVar: {most: 7},
	api.EIn:  {most: 3},
	api.ENeg: {operands: 1},
	api.EAdd: {operands: 2},
	api.ESub: {operands: 2},
	api.EMul: {operands: 2},
}

// look tells what is wrong with a part of a body; OK if nothing is.
type look func() api.Errno

// Check is what is wrong with a body, and with which of its statements.
func Check(body []api.Stmt) api.Fault {
	if Count(body) > api.MaxStmts {
		return api.Fault{Code: api.ErrMany}
	}
	w := walk{at: -1}
	if code := w.list(body)(); code != api.OK {
		return api.Fault{Code: code, At: w.at}
	}
	return api.Fault{}
}

// first is what the first look tells that finds something wrong. Those behind it aren't taken: they may lean on what it asks.
func first(looks ...look) api.Errno {
	for _, l := range looks {
		if code := l(); code != api.OK {
			return code
		}
	}
	return api.OK
}

// needs looks whether something holds.
func needs(holds bool, code api.Errno) look {
	return func() api.Errno {
		if holds {
			return api.OK
		}
		return code
	}
}

// only takes a look if there is something to be looked at.
func only(there bool, l look) look {
	if there {
		return l
	}
	return func() api.Errno { return api.OK }
}

// walk goes through a body: at is the number of the statement that it has come to, around are those that this one lies in.
type walk struct {
	at     int
	around []api.Stmt
}

func (w *walk) list(list []api.Stmt) look {
	return func() api.Errno {
		for _, s := range list {
			if code := w.stmt(s); code != api.OK {
				return code
			}
		}
		return api.OK
	}
}

func (w *walk) stmt(s api.Stmt) api.Errno {
	w.at++
	if s.Kind < 1 || s.Kind >= len(shapes) {
		return api.ErrOp
	}
	has := shapes[s.Kind]
	return first(
		needs(has.least <= s.N && s.N <= has.most, api.ErrRange),
		needs(!hasMore(s, has), api.ErrOp),
		only(has.value, expr(s.E)),
		only(has.cond, cond(s.If)),
		needs(!has.inner || len(w.around) < api.MaxDeep, api.ErrMany),
		needs(s.Kind != api.SLock || !w.held(s.N), api.ErrLock),
		w.inner(s),
	)
}

// inner looks at the statements within s.
func (w *walk) inner(s api.Stmt) look {
	return func() api.Errno {
		w.around = append(w.around, s)
		code := first(w.list(s.Body), w.list(s.Else))
		w.around = w.around[:len(w.around)-1]
		return code
	}
}

func (w *walk) held(lock int) bool {
	for _, s := range w.around {
		if s.Kind == api.SLock && s.N == lock {
			return true
		}
	}
	return false
}

// hasMore: does s have something that its kind doesn't use?
func hasMore(s api.Stmt, has shape) bool {
	return !has.value && !isNone(s.E) ||
		!has.cond && (s.If.Kind != 0 || !isNone(s.If.A) || !isNone(s.If.B)) ||
		!has.inner && len(s.Body) > 0 ||
		!has.other && len(s.Else) > 0
}

func isNone(e api.Expr) bool { return e.Kind == 0 && e.N == 0 && len(e.A) == 0 }

func cond(c api.Cond) look {
	return func() api.Errno {
		return first(needs(api.Less <= c.Kind && c.Kind <= api.Least, api.ErrOp), expr(c.A), expr(c.B))
	}
}

func expr(e api.Expr) look {
	return func() api.Errno {
		nodes := 0
		return node(e, &nodes)
	}
}

// node looks at e and its operands; nodes is how many were come to ahead of it. They are counted on the way, so that it ends though an expression be an operand of its own.
func node(e api.Expr, nodes *int) api.Errno {
	*nodes++
	if *nodes > maxNodes {
		return api.ErrMany
	}
	if e.Kind < 1 || e.Kind >= len(forms) || len(e.A) != forms[e.Kind].operands {
		return api.ErrOp
	}
	if e.N < 0 || e.N > forms[e.Kind].most {
		return api.ErrRange
	}
	for _, operand := range e.A {
		if code := node(operand, nodes); code != api.OK {
			return code
		}
	}
	return api.OK
}
