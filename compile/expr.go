package compile

import "punctual/api"

// ends is the instruction that an expression of a kind ends with; an opposite needs more than one.
var ends = [...]int{
	api.ENum: api.IPush,
	api.EVar: api.ILoad,
	api.EIn:  api.IIn,
	api.EAdd: api.IAdd,
	api.ESub: api.ISub,
	api.EMul: api.IMul,
}

// comparison is how two numbers are compared for a condition; opposite: it holds where the comparison doesn't.
type comparison struct {
	op       int
	opposite bool
}

var comparisons = [...]comparison{
	api.Less:  {op: api.ILess},
	api.Same:  {op: api.ISame},
	api.Other: {op: api.ISame, opposite: true},
	api.Least: {op: api.ILess, opposite: true},
}

// expr: what has operands has 0 for its N, which is what its instruction must have for its A.
func (b *builder) expr(e api.Expr) {
	for _, operand := range e.A {
		b.expr(operand)
	}
	if e.Kind == api.ENeg {
		b.negate()
		return
	}
	b.put(ends[e.Kind], e.N)
}

// negate is a product with 0 - 1, since no instruction has a number below 0.
func (b *builder) negate() {
	b.put(api.IPush, 0)
	b.put(api.IPush, 1)
	b.put(api.ISub, 0)
	b.put(api.IMul, 0)
}

// cond answers the jump that is taken where the condition doesn't hold.
func (b *builder) cond(c api.Cond) lands {
	b.expr(c.A)
	b.expr(c.B)
	b.put(comparisons[c.Kind].op, 0)
	if comparisons[c.Kind].opposite {
		b.put(api.IPush, 0)
		b.put(api.ISame, 0)
	}
	return b.leap(api.ISkip)
}
