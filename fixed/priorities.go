package fixed

import (
	"cmp"
	"slices"

	"punctual/api"
	"punctual/tasks"
)

// Rates is the set with priorities by T: who comes oftenest goes first.
func Rates(set []api.Task) ([]api.Task, api.Fault) {
	return ranked(set, func(t api.Task) int { return t.T })
}

// Deadlines is the set with priorities by D: who must be done soonest goes first.
func Deadlines(set []api.Task) ([]api.Task, api.Fault) {
	return ranked(set, func(t api.Task) int { return t.D })
}

// ranked is the set with priorities by a number of each task: the least one has the greatest, and of several the first one the greater.
func ranked(set []api.Task, by func(t api.Task) int) ([]api.Task, api.Fault) {
	if f := tasks.Check(set); f.Code != api.OK {
		return nil, f
	}
	order := numbers(len(set))
	slices.SortStableFunc(order, func(a, b int) int { return cmp.Compare(by(set[a]), by(set[b])) })
	out := slices.Clone(set)
	for place, i := range order {
		out[i].P = len(set) - place
	}
	return out, api.Fault{}
}

// Assign is the set with priorities with which nobody is late, each held up for its block.
func Assign(set []api.Task, blocks []int) ([]api.Task, api.Fault) {
	if f := check(set, dueInPeriod); f.Code != api.OK {
		return nil, f
	}
	noTime := func(block int) bool { return !isTime(block) }
	if len(blocks) != len(set) || slices.ContainsFunc(blocks, noTime) {
		return nil, api.Fault{Code: api.ErrMany}
	}
	out := slices.Clone(set)
	left := numbers(len(set)) // those that have no priority yet
	waits := func(other int) bool { return slices.Contains(left, other) }
	mayBeLast := func(i int) bool {
		_, ok := worst(set, i, blocks[i], waits)
		return ok
	}
	for p := range len(set) {
		at := slices.IndexFunc(left, mayBeLast)
		if at < 0 {
			return nil, api.Fault{Code: api.ErrNone}
		}
		out[left[at]].P = p + 1
		left = slices.Delete(left, at, at+1)
	}
	return out, api.Fault{}
}

// numbers are 0 to n - 1.
func numbers(n int) []int {
	l := make([]int, n)
	for i := range l {
		l[i] = i
	}
	return l
}
