package modes

import (
	"slices"

	"punctual/api"
	"punctual/fixed"
	"punctual/ready"
	"punctual/sched"
)

// Frame tells what is wrong with a frame and its windows, and At which of them.
func Frame(length int, windows []api.Window) api.Fault {
	if !within(length, 1, api.MaxTime) {
		return api.Fault{Code: api.ErrRange}
	}
	if len(windows) > api.MaxWindows {
		return api.Fault{Code: api.ErrMany}
	}
	end := 0
	for i, w := range windows {
		// Len may be any number: a sum could go round.
		if !within(w.At, 0, length) || !within(w.Len, 1, length-w.At) {
			return api.Fault{Code: api.ErrRange, At: i}
		}
		if w.At < end {
			return api.Fault{Code: api.ErrOrder, At: i}
		}
		end = w.At + w.Len
	}
	return api.Fault{}
}

// Open tells whether the core is there in tick t.
func Open(length int, windows []api.Window, t int) bool {
	if f := Frame(length, windows); f.Code != api.OK || t < 0 {
		return false
	}
	return frame{length, windows}.open(t)
}

// Supply is in how many of so many ticks, from a time on, the core is there.
func Supply(length int, windows []api.Window, from, ticks int) (int, api.Fault) {
	if f := checkTimes(length, windows, from, ticks); f.Code != api.OK {
		return 0, f
	}
	return frame{length, windows}.supply(from, ticks), api.Fault{}
}

// Least is the least Supply, from whatever time on.
func Least(length int, windows []api.Window, ticks int) (int, api.Fault) {
	if f := checkTimes(length, windows, ticks); f.Code != api.OK {
		return 0, f
	}
	return frame{length, windows}.least(ticks), api.Fault{}
}

// checkTimes tells what is wrong with a frame, and then with times.
func checkTimes(length int, windows []api.Window, times ...int) api.Fault {
	if f := Frame(length, windows); f.Code != api.OK {
		return f
	}
	if slices.ContainsFunc(times, func(t int) bool { return !within(t, 0, api.MaxUntil) }) {
		return api.Fault{Code: api.ErrRange}
	}
	return api.Fault{}
}

// Within is how long task i takes at worst from its coming till it is done, on a core that is there in windows alone.
func Within(set []api.Task, i, length int, windows []api.Window) (int, api.Fault) {
	if _, f := fixed.Response(set, i, 0); f.Code != api.OK {
		return 0, f
	}
	if f := Frame(length, windows); f.Code != api.OK {
		return 0, f
	}
	core, own := frame{length, windows}, set[i]
	for w := own.C; w <= own.D-own.J; {
		short := asked(set, i, w) - core.least(w)
		if short <= 0 {
			return w + own.J, api.Fault{}
		}
		// A tick brings one more at most, and what is asked for never grows less: so none of those between does.
		w += short
	}
	return 0, api.Fault{Code: api.ErrNone, At: i}
}

// asked is what task i, and those that may go ahead of it in w ticks, ask for.
func asked(set []api.Task, i, w int) int {
	sum := set[i].C
	for other, t := range set {
		if other != i && t.P >= set[i].P {
			sum += roundUp(w+t.J, t.T) * t.C
		}
	}
	return sum
}

// Hosted is how jobs run by fixed priorities in the ticks ahead of until, on a core that is there in windows alone.
func Hosted(jobs []api.Job, length int, windows []api.Window, until int) (api.Played, api.Fault) {
	if f := Frame(length, windows); f.Code != api.OK {
		return api.Played{}, f
	}
	if f := sched.Check(jobs); f.Code != api.OK {
		return api.Played{}, f
	}
	if !within(until, 0, api.MaxUntil) {
		return api.Played{}, api.Fault{Code: api.ErrRange}
	}
	line := ready.New(jobs, ready.By(api.Fixed))
	return play(line, len(jobs), until, frame{length, windows}.open, nothing), api.Fault{}
}

// frame is one that nothing is wrong with.
type frame struct {
	length  int
	windows []api.Window
}

// open tells whether the core is there in tick t.
func (f frame) open(t int) bool {
	in := func(w api.Window) bool { return within(t%f.length, w.At, w.At+w.Len-1) }
	return slices.ContainsFunc(f.windows, in)
}

// supply is in how many of so many ticks, from a time on, the core is there.
func (f frame) supply(from, ticks int) int { return f.ahead(from+ticks) - f.ahead(from) }

// ahead is in how many of the ticks ahead of a time the core is there.
func (f frame) ahead(time int) int {
	frames, rest := time/f.length, time%f.length
	sum := 0
	for _, w := range f.windows {
		sum += frames*w.Len + min(max(rest-w.At, 0), w.Len)
	}
	return sum
}

// least is the least supply, from whatever time on.
func (f frame) least(ticks int) int {
	worst := f.supply(0, ticks)
	// From no time on it is less than from the end of a window on: within one, each tick later gives one away; between two, each tick sooner is one more without.
	for _, w := range f.windows {
		worst = min(worst, f.supply(w.At+w.Len, ticks))
	}
	return worst
}
