package chain

import (
	"slices"

	"punctual/api"
	"punctual/fixed"
	"punctual/net"
)

// Responses are how long each part takes at worst, from the coming of its chain till it is done.
func Responses(parts []api.Part) ([]int, api.Fault) {
	if f := Check(parts); f.Code != api.OK {
		return nil, f
	}
	all, ok := settle(len(parts), func(take []int) ([]int, bool) {
		late, ok := lateness(parts, take)
		if !ok {
			return nil, false
		}
		return responses(parts, late)
	})
	if !ok {
		return nil, api.Fault{Code: api.ErrNone}
	}
	return all, api.Fault{}
}

// settle are the least n numbers of which they follow themselves; false if there are none. Of numbers that are too great nothing may follow: so it ends.
func settle(n int, follow func(take []int) ([]int, bool)) ([]int, bool) {
	// Of greater numbers never follow lesser ones, and where nothing follows, nothing follows of greater ones either: so, from below, the first numbers found are the least ones.
	take := make([]int, n)
	for {
		next, ok := follow(take)
		if !ok || slices.Equal(next, take) {
			return next, ok
		}
		take = next
	}
}

// lateness is of each part how late it may be there, if parts take so long; false if a message may be late.
func lateness(parts []api.Part, take []int) ([]int, bool) {
	late := make([]int, len(parts))
	var frames []api.Frame
	var told []int // of each message, the part to which it goes
	for i, p := range parts {
		if begins(p) {
			continue
		}
		late[i] = take[p.From]
		if p.Send != 0 {
			frames, told = append(frames, api.Frame{C: p.Send, T: p.T, D: p.D, J: late[i]}), append(told, i)
		}
	}
	if len(frames) == 0 {
		return late, true
	}
	times, f := net.Times(frames)
	if f.Code != api.OK {
		return nil, false
	}
	for k, i := range told {
		late[i] = times[k]
	}
	return late, true
}

// responses are how long each part takes at worst, if each may be there so late; false if one may be late.
func responses(parts []api.Part, late []int) ([]int, bool) {
	all := make([]int, len(parts))
	for core := range api.MaxCores {
		set, which := lies(parts, late, core)
		if len(set) == 0 {
			continue
		}
		times, f := fixed.Responses(set, make([]int, len(set)))
		if f.Code != api.OK {
			return nil, false
		}
		for k, i := range which {
			all[i] = times[k]
		}
	}
	return all, true
}

// lies are the tasks that lie on a core, and which part each of them is.
func lies(parts []api.Part, late []int, core int) (set []api.Task, which []int) {
	for i, p := range parts {
		if p.Core == core {
			// No two tasks of a set may have the same name.
			name := string(rune('a' + i))
			set = append(set, api.Task{Name: name, C: p.C, T: p.T, D: p.D, J: late[i], P: p.P})
			which = append(which, i)
		}
	}
	return set, which
}
