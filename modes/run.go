package modes

import (
	"slices"

	"punctual/api"
	"punctual/ready"
)

// play plays so many jobs, which stand in a line, in those of the ticks ahead of until in which the core is there; ran is told of each job that has run for a tick, and when that was over.
func play(line *ready.Line, jobs, until int, there func(tick int) bool, ran func(job, time int)) api.Played {
	p := api.Played{Runs: slices.Repeat([]int{ready.Nobody}, until), Ends: slices.Repeat([]int{ready.Nobody}, jobs)}
	for now := range until {
		line.Come(now)
		job := line.First()
		if job == ready.Nobody || !there(now) {
			continue
		}
		p.Runs[now] = job
		if line.Work(job) {
			p.Ends[job] = now + 1
		}
		ran(job, now+1)
	}
	return p
}

// always: a core that is there in each tick.
func always(int) bool { return true }

// nothing: nobody asks who has run.
func nothing(_, _ int) {}
