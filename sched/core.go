package sched

import (
	"cmp"
	"slices"

	"punctual/api"
)

// nobody stands where no job runs.
const nobody = -1

// entry is a job that is played.
type entry struct {
	api.Job
	number int // in the list that was handed in
	left   int // the ticks that it still has to run
}

// core is one on which jobs are played. Who goes first never changes while they are, so it is asked once: a place among the ranked says it.
type core struct {
	ranked []entry // those that go first stand first
	comes  []int   // places of those that aren't there yet, as they come
	there  []int   // places of those that are there, rising
}

// newCore is a core ahead of tick 0.
func newCore(jobs []api.Job, policy int) *core {
	c := &core{ranked: make([]entry, len(jobs)), comes: make([]int, len(jobs))}
	for i, j := range jobs {
		c.ranked[i] = entry{Job: j, number: i, left: j.C}
	}
	slices.SortFunc(c.ranked, func(a, b entry) int { return ahead(policy, a, b) })
	for place := range c.comes {
		c.comes[place] = place
	}
	slices.SortFunc(c.comes, func(a, b int) int { return cmp.Compare(c.ranked[a].At, c.ranked[b].At) })
	return c
}

// ahead is below 0 if a goes ahead of b. (P may be any number: a difference could go round.)
func ahead(policy int, a, b entry) int {
	first := cmp.Compare(a.Due, b.Due)
	if policy == api.Fixed {
		first = cmp.Compare(b.P, a.P)
	}
	return cmp.Or(first, cmp.Compare(a.At, b.At), cmp.Compare(a.number, b.number))
}

// play plays the ticks ahead of until.
func (c *core) play(preempt bool, until int) api.Played {
	p := api.Played{Runs: make([]int, until), Ends: slices.Repeat([]int{nobody}, len(c.ranked))}
	running := nobody
	for now := range until {
		c.come(now)
		if preempt || running == nobody {
			running = c.foremost()
		}
		p.Runs[now] = nobody
		if running == nobody {
			continue
		}
		e := &c.ranked[running]
		p.Runs[now] = e.number
		e.left--
		if e.left == 0 {
			p.Ends[e.number] = now + 1
			c.leave(running)
			running = nobody
		}
	}
	return p
}

// come lets those be there whose time has come.
func (c *core) come(now int) {
	for len(c.comes) > 0 && c.ranked[c.comes[0]].At <= now {
		at, _ := slices.BinarySearch(c.there, c.comes[0])
		c.there = slices.Insert(c.there, at, c.comes[0])
		c.comes = c.comes[1:]
	}
}

// foremost is the place of the one that goes first of those that are there.
func (c *core) foremost() int {
	if len(c.there) == 0 {
		return nobody
	}
	return c.there[0]
}

// leave takes out one that is done.
func (c *core) leave(place int) {
	at, _ := slices.BinarySearch(c.there, place)
	c.there = slices.Delete(c.there, at, at+1)
}
