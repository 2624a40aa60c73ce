package redo

import (
	"slices"

	"punctual/api"
	"punctual/ready"
	"punctual/sched"
)

// Play is how jobs run by fixed priorities in the ticks ahead of until, where faults undo what was done since the last checkpoint.
func Play(jobs []api.Job, step int, faults []int, until int) (api.Played, api.Fault) {
	if f := checkPlay(jobs, step, faults, until); f.Code != api.OK {
		return api.Played{}, f
	}
	struck := func(tick int) bool {
		_, is := slices.BinarySearch(faults, tick)
		return is
	}
	return play(jobs, step, until, struck), api.Fault{}
}

// checkPlay tells what is wrong with what is to be played.
func checkPlay(jobs []api.Job, step int, faults []int, until int) api.Fault {
	f := sched.Check(jobs)
	switch {
	case f.Code != api.OK:
		return f
	case !isStep(step) || !within(until, 0, api.MaxUntil):
		return api.Fault{Code: api.ErrRange}
	case len(faults) > api.MaxJobs:
		return api.Fault{Code: api.ErrMany}
	}
	for i := range faults {
		if i > 0 && faults[i] <= faults[i-1] {
			return api.Fault{Code: api.ErrOrder, At: i}
		}
	}
	return api.Fault{}
}

// play plays jobs in the ticks ahead of until; struck tells which ticks have a fault.
func play(jobs []api.Job, step, until int, struck func(tick int) bool) api.Played {
	line := ready.New(jobs, ready.By(api.Fixed))
	p := api.Played{Runs: make([]int, until), Ends: slices.Repeat([]int{ready.Nobody}, len(jobs))}
	since := make([]int, len(jobs)) // of each job, the ticks of work that it has done since its last checkpoint
	for now := range until {
		line.Come(now)
		job := line.First()
		p.Runs[now] = job
		switch {
		case job == ready.Nobody:
		case struck(now):
			line.Redo(job, since[job])
			since[job] = 0
		case line.Work(job):
			p.Ends[job] = now + 1
		default:
			since[job]++
			// Where step is 0, there is no checkpoint to come to: since is above 0 here.
			if since[job] == step {
				since[job] = 0
			}
		}
	}
	return p
}
