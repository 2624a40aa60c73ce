package chain

import (
	"slices"

	"punctual/api"
)

// mostPlaced is how many parts are laid on cores at most.
const mostPlaced = 5

// Place is of each part a core, so that each is done in time if it lies there.
func Place(parts []api.Part, cores int) ([]int, api.Fault) {
	f := Check(parts)
	switch {
	case f.Code != api.OK:
		return nil, f
	case !within(cores, 1, api.MaxCores):
		return nil, api.Fault{Code: api.ErrRange}
	case len(parts) > mostPlaced:
		return nil, api.Fault{Code: api.ErrMany}
	}
	laid := slices.Clone(parts)
	way, ok := firstWay(len(parts), cores, func(way []int) bool {
		for i, core := range way {
			laid[i].Core = core
		}
		_, f := Responses(laid)
		return f.Code == api.OK
	})
	if !ok {
		return nil, api.Fault{Code: api.ErrNone}
	}
	return way, api.Fault{}
}

// firstWay is the first way to lay so many parts on cores that is good; false if there is none.
func firstWay(parts, cores int, good func(way []int) bool) ([]int, bool) {
	way := make([]int, parts)
	var lay func(part, used int) bool
	lay = func(part, used int) bool {
		if part == parts {
			return good(way)
		}
		// All cores are alike: so of those on which nothing lies yet only the first one needs to be looked at.
		for core := range min(used+1, cores) {
			way[part] = core
			if lay(part+1, max(used, core+1)) {
				return true
			}
		}
		return false
	}
	if !lay(0, 0) {
		return nil, false
	}
	return way, true
}
