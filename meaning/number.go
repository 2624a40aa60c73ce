package meaning

import "punctual/api"

// numbered is a statement that stands at its number. Body is what has the numbers behind it, up to other-1; Else from there up to next-1.
type numbered struct {
	api.Stmt
	other, next int
}

// number adds the statements of a list to those that have their numbers already, each ahead of those in it.
func number(stmts []numbered, list []api.Stmt) []numbered {
	for _, s := range list {
		at := len(stmts)
		stmts = number(append(stmts, numbered{Stmt: s}), s.Body)
		stmts[at].other = len(stmts)
		stmts = number(stmts, s.Else)
		stmts[at].next = len(stmts)
	}
	return stmts
}
