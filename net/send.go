package net

import (
	"punctual/api"
	"punctual/sched"
)

// Send is how messages that come so go over the bus in the ticks ahead of until, if each is there late ticks behind its coming.
func Send(l []api.Frame, comes []api.Come, late []int, until int) (api.Played, api.Fault) {
	if f := checkSend(l, comes, late); f.Code != api.OK {
		return api.Played{}, f
	}
	jobs := make([]api.Job, len(comes))
	for i, c := range comes {
		m := l[c.Task]
		jobs[i] = api.Job{Task: c.Task, At: c.At + late[i], C: m.C, Due: c.At + m.D, P: len(l) - c.Task}
	}
	return sched.Play(jobs, api.Fixed, false, until)
}

// checkSend tells what is wrong with messages, and then with how they come.
func checkSend(l []api.Frame, comes []api.Come, late []int) api.Fault {
	if f := Check(l); f.Code != api.OK {
		return f
	}
	if len(comes) > api.MaxJobs || len(late) != len(comes) {
		return api.Fault{Code: api.ErrMany}
	}
	for i, c := range comes {
		if !within(c.Task, 0, len(l)-1) {
			return api.Fault{Code: api.ErrName, At: i}
		}
		if !within(c.At, 0, api.MaxUntil) || !within(late[i], 0, l[c.Task].J) {
			return api.Fault{Code: api.ErrRange, At: i}
		}
	}
	return api.Fault{}
}
