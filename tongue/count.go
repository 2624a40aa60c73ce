// Package tongue reads and writes the bodies of tasks: see doc/02-tongue.md.
package tongue

import (
	"math"

	"punctual/api"
)

// Count is how many statements there are, those within others, too; math.MaxInt if there are more, or no end of them.
//
// A list may lie in many places, and even within itself: so what lies within a statement is counted once alone, however often it counts. The statements that are still to be counted stand in a list, for they may lie deeper than calls within calls go.
func Count(body []api.Stmt) int {
	within := map[*api.Stmt]int{}
	open := appendUnmet(nil, body, within)
	for len(open) > 0 {
		s := open[len(open)-1]
		if _, met := within[s]; !met {
			// Until it is counted it is taken to have no end: then one that lies within itself has none.
			within[s] = math.MaxInt
			open = appendUnmet(open, s.Body, within)
			open = appendUnmet(open, s.Else, within)
			continue
		}
		within[s] = plus(size(s.Body, within), size(s.Else, within))
		open = open[:len(open)-1]
	}
	return size(body, within)
}

// appendUnmet adds to open the statements of a list that have others in them, but those that were come to already.
func appendUnmet(open []*api.Stmt, list []api.Stmt, within map[*api.Stmt]int) []*api.Stmt {
	for i := range list {
		s := &list[i]
		if _, met := within[s]; !met && len(s.Body)+len(s.Else) > 0 {
			open = append(open, s)
		}
	}
	return open
}

// size is how many statements a list has, where it is known how many lie within each.
func size(list []api.Stmt, within map[*api.Stmt]int) int {
	n := len(list)
	for i := range list {
		n = plus(n, within[&list[i]])
	}
	return n
}

// plus is the sum of two numbers that aren't below 0, as far as numbers go.
func plus(a, b int) int {
	if a > math.MaxInt-b {
		return math.MaxInt
	}
	return a + b
}
