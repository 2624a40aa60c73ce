package wcet

import (
	"punctual/api"
	"punctual/mach"
)

// left tells what is left from a number on, to the end of its innermost region.
type left func(at int) int

// told is what a list says is left; it reads the list when it is asked. Behind the last instruction nothing is left.
func told(rest []int) left {
	return func(at int) int {
		if at == len(rest) {
			return 0
		}
		return rest[at]
	}
}

// rules tells what is left at least from an instruction on, if it is what from says further below. It leans on what mach.Check has seen of the image.
func rules(image []api.Ins, from left) left {
	closed := closers(image)
	return func(at int) int {
		x, next := image[at], at+1
		ticks := mach.Cost(x, false)
		switch x.Op {
		case api.IAgain: // its ticks are counted where the loop begins, since it is known there how often it goes back
			return 0
		case api.IUnlock:
			return ticks
		case api.IJump:
			return ticks + from(x.A)
		case api.ISkip:
			return max(mach.Cost(x, true)+from(x.A), ticks+from(next))
		case api.ICount:
			again := image[closed[at]]
			rounds := (x.B+1)*from(next) + x.B*mach.Cost(again, true) + mach.Cost(again, false)
			return ticks + rounds + from(closed[at]+1)
		case api.ILock:
			return ticks + from(next) + from(closed[at]+1)
		}
		return ticks + from(next)
	}
}

// closers are, of those that open a region, the numbers of those that close it.
func closers(image []api.Ins) []int {
	closed := make([]int, len(image))
	var open []int // the innermost one is the last
	for at, x := range image {
		switch x.Op {
		case api.ICount, api.ILock:
			open = append(open, at)
		case api.IAgain, api.IUnlock:
			innermost := len(open) - 1
			closed[open[innermost]] = at
			open = open[:innermost]
		}
	}
	return closed
}
