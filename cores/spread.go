package cores

import (
	"punctual/api"
	"punctual/edf"
)

// Spread is of each task a core on which it lies, so that on each core nobody is late if the one that is due first goes first.
func Spread(set []api.Task, cores int) ([]int, api.Fault) {
	if f := check(set, cores); f.Code != api.OK {
		return nil, f
	}
	fits := remembered(func(g group) api.Errno { return edf.Fits(g.of(set)).Code })
	way, ok := firstWay(len(set), cores, func(g group) bool { return fits(g) == api.OK })
	if !ok {
		return nil, api.Fault{Code: api.ErrNone}
	}
	return way, api.Fault{}
}

// group is some tasks of a set: bit i of it is 1 if task i is one of them.
type group uint

// with is the group and a task.
func (g group) with(task int) group { return g | 1<<task }

// of are the tasks themselves, in the set's order.
func (g group) of(set []api.Task) []api.Task {
	var some []api.Task
	for i, t := range set {
		if g.with(i) == g {
			some = append(some, t)
		}
	}
	return some
}

// remembered answers as ask does, and asks of each group only once: there are few groups, but many ways that have the same ones, and an answer may take long.
func remembered(ask func(g group) api.Errno) func(g group) api.Errno {
	known := map[group]api.Errno{}
	return func(g group) api.Errno {
		code, ok := known[g]
		if !ok {
			code = ask(g)
			known[g] = code
		}
		return code
	}
}

// firstWay is the first way to lay so many tasks on cores so that the group of each core that has any fits; false if there is none.
func firstWay(tasks, cores int, fits func(g group) bool) ([]int, bool) {
	way, on := make([]int, tasks), make([]group, cores)
	var lay func(task int) bool
	lay = func(task int) bool {
		if task == tasks {
			return true
		}
		for core, others := range on {
			// A group that fits still does without one of its tasks: so where one doesn't fit already, nobody needs to look at what comes on top.
			if !fits(others.with(task)) {
				continue
			}
			way[task], on[core] = core, others.with(task)
			if lay(task + 1) {
				return true
			}
			on[core] = others
		}
		return false
	}
	if !lay(0) {
		return nil, false
	}
	return way, true
}
