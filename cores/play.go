package cores

import (
	"slices"

	"punctual/api"
	"punctual/ready"
	"punctual/sched"
)

// Play is how jobs run by a policy on so many cores in the ticks ahead of until: of each tick who runs, and of each job when it was done (-1: never).
func Play(jobs []api.Job, policy, cores, until int) (runs [][]int, ends []int, f api.Fault) {
	if f = checkPlay(jobs, policy, cores, until); f.Code != api.OK {
		return nil, nil, f
	}
	line := ready.New(jobs, ready.By(policy))
	runs, ends = make([][]int, until), slices.Repeat([]int{ready.Nobody}, len(jobs))
	for now := range until {
		line.Come(now)
		runs[now] = line.Firsts(cores)
		for _, job := range runs[now] {
			if line.Work(job) {
				ends[job] = now + 1
			}
		}
	}
	return runs, ends, api.Fault{}
}

// checkPlay tells what is wrong with what is to be played.
func checkPlay(jobs []api.Job, policy, cores, until int) api.Fault {
	f := sched.Check(jobs)
	switch {
	case f.Code != api.OK:
		return f
	case policy != api.Fixed && policy != api.Earliest:
		return api.Fault{Code: api.ErrOp}
	case !isCores(cores) || !within(until, 0, api.MaxUntil):
		return api.Fault{Code: api.ErrRange}
	}
	return api.Fault{}
}
