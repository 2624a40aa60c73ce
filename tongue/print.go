package tongue

import (
	"strconv"
	"strings"

	"punctual/api"
)

// How tightly an expression holds together: where a tighter one must stand, it needs brackets.
const (
	asSum = iota
	asProd
	asUnit
)

// Print writes a body; nothing if Check refuses it.
func Print(body []api.Stmt) string {
	if Check(body).Code != api.OK {
		return ""
	}
	w := &writer{}
	w.list(body)
	return w.text.String()
}

// writer writes lines; deep is how many statements lie around the one that is written.
type writer struct {
	text strings.Builder
	deep int
}

func (w *writer) line(parts ...string) {
	w.text.WriteString(strings.Repeat("\t", w.deep))
	for _, p := range parts {
		w.text.WriteString(p)
	}
	w.text.WriteString("\n")
}

func (w *writer) list(list []api.Stmt) {
	for _, s := range list {
		w.stmt(s)
	}
}

func (w *writer) inner(list []api.Stmt) {
	w.deep++
	w.list(list)
	w.deep--
}

func (w *writer) stmt(s api.Stmt) {
	n := strconv.Itoa(s.N)
	switch s.Kind {
	case api.SSet:
		w.line(name(s.N), " = ", written(s.E, asSum), ";")
	case api.SOut:
		w.line("out ", n, " = ", written(s.E, asSum), ";")
	case api.SWork:
		w.line("work ", n, ";")
	case api.SIf:
		w.block(s, "if ", condition(s.If))
	case api.SRepeat:
		w.block(s, "repeat ", n)
	case api.SWhile:
		w.block(s, "upto ", n, " while ", condition(s.If))
	case api.SLock:
		w.block(s, "lock ", n)
	}
}

// block writes a statement that has others in it; head is what stands ahead of them.
func (w *writer) block(s api.Stmt, head ...string) {
	w.line(strings.Join(head, ""), " {")
	w.inner(s.Body)
	if len(s.Else) > 0 {
		w.line("} else {")
		w.inner(s.Else)
	}
	w.line("}")
}

func condition(c api.Cond) string {
	sign := ""
	switch c.Kind {
	case api.Less:
		sign = " < "
	case api.Same:
		sign = " == "
	case api.Other:
		sign = " != "
	case api.Least:
		sign = " >= "
	}
	return written(c.A, asSum) + sign + written(c.B, asSum)
}

// written writes an expression where one as tight as least must stand.
func written(e api.Expr, least int) string {
	text, tight := bare(e)
	if tight < least {
		return "(" + text + ")"
	}
	return text
}

// bare writes an expression without brackets around it, and tells how tight it is. Chains group to the left: so what stands on the right must be tighter than the chain.
func bare(e api.Expr) (text string, tight int) {
	switch e.Kind {
	case api.EVar:
		return name(e.N), asUnit
	case api.EIn:
		return "in " + strconv.Itoa(e.N), asUnit
	case api.ENeg:
		return "-" + written(e.A[0], asUnit), asUnit
	case api.EAdd:
		return written(e.A[0], asSum) + " + " + written(e.A[1], asProd), asSum
	case api.ESub:
		return written(e.A[0], asSum) + " - " + written(e.A[1], asProd), asSum
	case api.EMul:
		return written(e.A[0], asProd) + " * " + written(e.A[1], asUnit), asProd
	}
	return strconv.Itoa(e.N), asUnit
}

func name(variable int) string { return string(rune('a' + variable)) }
