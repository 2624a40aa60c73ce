package net

import (
	"slices"

	"punctual/api"
)

// farthest is how far from 0 what a clock says, or its drift, may lie.
const farthest = 1 << 40

// isNear tells whether n doesn't lie farther from 0 than it may.
func isNear(n int) bool { return within(n, -farthest, farthest) }

// isClocks tells whether n is a number of clocks.
func isClocks(n int) bool { return within(n, 1, api.MaxNodes) }

// Middle is the time that a clock takes of what it has heard, though so many of those that it heard may lie.
func Middle(heard []int, liars int) (int, api.Errno) {
	n := len(heard)
	switch {
	case !isClocks(n):
		return 0, api.ErrMany
	case slices.ContainsFunc(heard, func(said int) bool { return !isNear(said) }):
		return 0, api.ErrRange
	case !within(liars, 0, (n-1)/3): // liars may be any number: three times as many could go round
		return 0, api.ErrNone
	}
	rising := slices.Clone(heard)
	slices.Sort(rising)
	// A shift rounds down, below 0, too.
	return (rising[liars] + rising[n-1-liars]) >> 1, api.OK
}

// Round is what each clock says at the next time: the Middle of what it has heard, and its drift.
func Round(heard [][]int, liars int, drift []int) ([]int, api.Fault) {
	n := len(heard)
	if !isClocks(n) || len(drift) != n {
		return nil, api.Fault{Code: api.ErrMany}
	}
	next := make([]int, n)
	for i, l := range heard {
		if len(l) != n || !isNear(drift[i]) {
			return nil, api.Fault{Code: api.ErrRange, At: i}
		}
		middle, code := Middle(l, liars)
		if code != api.OK {
			return nil, api.Fault{Code: code, At: i}
		}
		next[i] = middle + drift[i]
	}
	return next, api.Fault{}
}
