package tasks

import "punctual/api"

// Legal tells whether tasks may come so; if not, At which of the comes they mayn't.
func Legal(set []api.Task, comes []api.Come) api.Fault {
	if f := Check(set); f.Code != api.OK {
		return f
	}
	if len(comes) > api.MaxJobs {
		return api.Fault{Code: api.ErrMany}
	}
	now := 0
	soonest := make([]int, len(set)) // of each task: when it may come next
	for i, c := range comes {
		switch {
		case !within(c.Task, 0, len(set)-1):
			return api.Fault{Code: api.ErrName, At: i}
		case !within(c.At, 0, api.MaxUntil):
			return api.Fault{Code: api.ErrRange, At: i}
		case c.At < now || c.At < soonest[c.Task]:
			return api.Fault{Code: api.ErrOrder, At: i}
		}
		now = c.At
		soonest[c.Task] = c.At + set[c.Task].T
	}
	return api.Fault{}
}

// Comes is how tasks come ahead of until if each comes as soon as it may, from its O on.
func Comes(set []api.Task, until int) ([]api.Come, api.Fault) {
	if f := Check(set); f.Code != api.OK {
		return nil, f
	}
	if !within(until, 0, api.MaxUntil) {
		return nil, api.Fault{Code: api.ErrRange}
	}
	var comes []api.Come
	for now := range until {
		for i, t := range set {
			if now < t.O || (now-t.O)%t.T != 0 {
				continue
			}
			comes = append(comes, api.Come{Task: i, At: now})
		}
		// Asked at each time, so that there are never many more than may be.
		if len(comes) > api.MaxJobs {
			return nil, api.Fault{Code: api.ErrMany}
		}
	}
	return comes, api.Fault{}
}

// Jobs are the jobs of comes, each of which is there late ticks behind its coming and works takes ticks.
func Jobs(set []api.Task, comes []api.Come, late, takes []int) ([]api.Job, api.Fault) {
	if f := Legal(set, comes); f.Code != api.OK {
		return nil, f
	}
	if len(late) != len(comes) || len(takes) != len(comes) {
		return nil, api.Fault{Code: api.ErrMany}
	}
	var jobs []api.Job
	for i, c := range comes {
		t := set[c.Task]
		if !within(late[i], 0, t.J) || !within(takes[i], 1, t.C) {
			return nil, api.Fault{Code: api.ErrRange, At: i}
		}
		jobs = append(jobs, api.Job{Task: c.Task, At: c.At + late[i], C: takes[i], Due: c.At + t.D, P: t.P})
	}
	return jobs, api.Fault{}
}
