package chain

import (
	"cmp"
	"slices"

	"punctual/api"
)

// never stands where a part isn't done for a coming.
const never = -1

// Play is how chains that come so run in the ticks ahead of until: for each coming when each part was done for it.
func Play(parts []api.Part, comes []api.Come, takes []int, until int) ([][]int, api.Fault) {
	if f := checkPlay(parts, comes, takes, until); f.Code != api.OK {
		return nil, f
	}
	s := newScene(parts, len(comes), works(parts, takes))
	waits := inTime(comes)
	for now := range until {
		for ; len(waits) > 0 && comes[waits[0]].At == now; waits = waits[1:] {
			s.addJob(comes[waits[0]].Task, waits[0], now)
		}
		s.tick(now)
	}
	return s.ends, api.Fault{}
}

// checkPlay tells what is wrong with what is to be played.
func checkPlay(parts []api.Part, comes []api.Come, takes []int, until int) api.Fault {
	f := Check(parts)
	switch {
	case f.Code != api.OK:
		return f
	case len(comes) > api.MaxJobs:
		return api.Fault{Code: api.ErrMany}
	case !within(until, 0, api.MaxUntil) || slices.ContainsFunc(takes, func(n int) bool { return n < 0 }):
		return api.Fault{Code: api.ErrRange}
	}
	for i, c := range comes {
		switch {
		case !within(c.Task, 0, len(parts)-1) || !begins(parts[c.Task]):
			return api.Fault{Code: api.ErrName, At: i}
		case !within(c.At, 0, api.MaxUntil):
			return api.Fault{Code: api.ErrRange, At: i}
		}
	}
	return api.Fault{}
}

// works tells how long the job of a part works for a coming.
func works(parts []api.Part, takes []int) func(part, coming int) int {
	return func(part, coming int) int {
		if len(takes) == 0 {
			return parts[part].C
		}
		return 1 + takes[(coming*len(parts)+part)%len(takes)]%parts[part].C
	}
}

// inTime are the numbers of comings as they come, those of one time rising.
func inTime(comes []api.Come) []int {
	all := make([]int, len(comes))
	for i := range all {
		all[i] = i
	}
	slices.SortStableFunc(all, func(a, b int) int { return cmp.Compare(comes[a].At, comes[b].At) })
	return all
}
