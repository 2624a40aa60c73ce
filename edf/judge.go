package edf

import (
	"cmp"
	"slices"

	"punctual/api"
	"punctual/sched"
)

// Judge tells whether any order could do all jobs in time; if not, from which time a to which time b there is too much to do.
func Judge(jobs []api.Job) (a, b int, f api.Fault) {
	if f = sched.Check(jobs); f.Code != api.OK {
		return 0, 0, f
	}
	byDue := slices.Clone(jobs)
	slices.SortFunc(byDue, func(x, y api.Job) int { return cmp.Compare(x.Due, y.Due) })
	for _, from := range begins(jobs) {
		if till, ok := tooMuch(byDue, from); ok {
			return from, till, api.Fault{Code: api.ErrNone}
		}
	}
	return 0, 0, api.Fault{}
}

// begins are the times at which jobs begin to be there, rising, each once.
func begins(jobs []api.Job) []int {
	var times []int
	for _, j := range jobs {
		times = append(times, j.At)
	}
	slices.Sort(times)
	return slices.Compact(times)
}

// tooMuch is the least time till which those that aren't there ahead of from have more to do than there is time.
func tooMuch(byDue []api.Job, from int) (int, bool) {
	sum := 0
	// Where another one is due, the sum doesn't grow, but the time does: so nobody needs to look there.
	for _, j := range byDue {
		if j.At < from {
			continue
		}
		sum += j.C
		if sum > j.Due-from {
			return j.Due, true
		}
	}
	return 0, false
}
