// Package ready keeps jobs that are played, and tells who goes first of those that are there (doc/08-sched.md). It lies beside the layers: those that play jobs lean on it.
package ready

import (
	"cmp"
	"slices"

	"punctual/api"
)

// Nobody stands where there is no job.
const Nobody = -1

// Order tells by a number below 0 that a goes ahead of b. Of those of which it says 0 the one with the least At does, then the first one in the list.
type Order func(a, b api.Job) int

// By is the order of a policy: Fixed or Earliest.
func By(policy int) Order {
	if policy == api.Earliest {
		return dueFirst
	}
	return greatestFirst
}

// InTurn is the order of those that are done as they come.
func InTurn(_, _ api.Job) int { return 0 }

func dueFirst(a, b api.Job) int { return cmp.Compare(a.Due, b.Due) }

// P may be any number: a difference could go round.
func greatestFirst(a, b api.Job) int { return cmp.Compare(b.P, a.P) }

// Line are jobs of which some are there. Who goes first never changes while they are played, so it is asked once: a job's rank says it.
type Line struct {
	jobs   []api.Job
	left   []int // of each job, the ticks that it still has to run
	ranks  []int // of each job, how many go ahead of it
	ranked []int // of each rank, the number of the job
	comes  []int // numbers of those that aren't there yet, as they come
	there  []int // ranks of those that are there, rising
}

// New is a line of jobs ahead of tick 0.
func New(jobs []api.Job, order Order) *Line {
	n := len(jobs)
	l := &Line{jobs: jobs, left: make([]int, n), ranks: make([]int, n), ranked: make([]int, n), comes: make([]int, n)}
	for i, j := range jobs {
		l.left[i], l.ranked[i], l.comes[i] = j.C, i, i
	}
	sooner := func(a, b int) int { return cmp.Or(cmp.Compare(jobs[a].At, jobs[b].At), cmp.Compare(a, b)) }
	slices.SortFunc(l.comes, sooner)
	slices.SortFunc(l.ranked, func(a, b int) int { return cmp.Or(order(jobs[a], jobs[b]), sooner(a, b)) })
	for rank, i := range l.ranked {
		l.ranks[i] = rank
	}
	return l
}

// Come lets those be there whose time has come; it tells whether there are any.
func (l *Line) Come(now int) bool {
	some := false
	for len(l.comes) > 0 && l.jobs[l.comes[0]].At <= now {
		rank := l.ranks[l.comes[0]]
		place, _ := slices.BinarySearch(l.there, rank)
		l.there = slices.Insert(l.there, place, rank)
		l.comes = l.comes[1:]
		some = true
	}
	return some
}

// First is the one that goes first of those that are there, or Nobody.
func (l *Line) First() int {
	if len(l.there) == 0 {
		return Nobody
	}
	return l.ranked[l.there[0]]
}

// Firsts are those that go first of those that are there, up to so many, in the order in which they do: a new list.
func (l *Line) Firsts(most int) []int {
	ranks := l.there[:min(most, len(l.there))]
	firsts := make([]int, len(ranks))
	for i, rank := range ranks {
		firsts[i] = l.ranked[rank]
	}
	return firsts
}

// Work lets one that is there run for a tick; it tells whether it is done: it isn't there any more, then.
func (l *Line) Work(job int) bool {
	l.left[job]--
	if l.left[job] > 0 {
		return false
	}
	place, _ := slices.BinarySearch(l.there, l.ranks[job])
	l.there = slices.Delete(l.there, place, place+1)
	return true
}

// Redo gives one that is there so many of the ticks back that it has run: it has to run them anew.
func (l *Line) Redo(job, ticks int) { l.left[job] += ticks }

// GiveUp takes those out of which it holds: they aren't there any more, and don't come.
func (l *Line) GiveUp(which func(job int) bool) {
	l.there = slices.DeleteFunc(l.there, func(rank int) bool { return which(l.ranked[rank]) })
	l.comes = slices.DeleteFunc(l.comes, which)
}
