package chain

import (
	"slices"

	"punctual/api"
)

// piece is a job of a part, or a message to it.
type piece struct {
	coming int // the number of the coming for which it is
	since  int // when it came to be there
	left   int // the ticks that it still takes
}

// line are the jobs of one part that are there, or the messages to it. The one that is there since earlier goes first, so each is added behind the others; several at one time there are only of a part that begins a chain, and these are added in the order of their comings.
type line []piece

// run lets the first piece go on for a tick; it tells for which coming it is, and whether it is done: it isn't there any more, then.
func (l *line) run() (coming int, done bool) {
	first := &(*l)[0]
	coming = first.coming
	first.left--
	if first.left > 0 {
		return coming, false
	}
	*l = (*l)[1:]
	return coming, true
}

// scene are parts of chains that are played.
type scene struct {
	parts    []api.Part
	works    func(part, coming int) int // how long a job works
	jobs     []line                     // of each part
	messages []line                     // to each part
	under    int                        // the part to which the message goes that is under way
	ends     [][]int                    // for each coming, of each part: when it was done
}

// newScene is one in which nothing has come yet.
func newScene(parts []api.Part, comings int, works func(part, coming int) int) *scene {
	s := &scene{parts: parts, works: works, jobs: make([]line, len(parts)), messages: make([]line, len(parts)), under: noPart, ends: make([][]int, comings)}
	for coming := range s.ends {
		s.ends[coming] = slices.Repeat([]int{never}, len(parts))
	}
	return s
}

// addJob lets the job of a part be there.
func (s *scene) addJob(part, coming, now int) {
	s.jobs[part] = append(s.jobs[part], piece{coming: coming, since: now, left: s.works(part, coming)})
}

// addMessage lets a message to a part be there.
func (s *scene) addMessage(part, coming, now int) {
	s.messages[part] = append(s.messages[part], piece{coming: coming, since: now, left: s.parts[part].Send})
}

// tick lets a job run on each core, and a message go on, in the tick from now on.
func (s *scene) tick(now int) {
	// Who goes on is asked ahead of all that is done: what hangs on that isn't there in this tick yet.
	firsts, sent := s.firsts(), s.sent()
	for _, part := range firsts {
		if part == noPart {
			continue
		}
		if coming, done := s.jobs[part].run(); done {
			s.done(part, coming, now+1)
		}
	}
	if sent == noPart {
		return
	}
	if coming, over := s.messages[sent].run(); over {
		s.under = noPart
		s.addJob(sent, coming, now+1)
	}
}

// done keeps when a part was done for a coming, and lets be there what hangs on it.
func (s *scene) done(part, coming, now int) {
	s.ends[coming][part] = now
	for next, p := range s.parts {
		switch {
		case p.From != part:
		case p.Send == 0:
			s.addJob(next, coming, now)
		default:
			s.addMessage(next, coming, now)
		}
	}
}

// firsts are of each core the part whose job goes first there.
func (s *scene) firsts() [api.MaxCores]int {
	var firsts [api.MaxCores]int
	for core := range firsts {
		firsts[core] = noPart
	}
	for part, l := range s.jobs {
		first := &firsts[s.parts[part].Core]
		if len(l) > 0 && (*first == noPart || s.goesAhead(part, *first)) {
			*first = part
		}
	}
	return firsts
}

// goesAhead tells whether the first job of a part goes ahead of that of a lower part.
func (s *scene) goesAhead(part, lower int) bool {
	if s.parts[part].P != s.parts[lower].P {
		return s.parts[part].P > s.parts[lower].P
	}
	return s.jobs[part][0].since < s.jobs[lower][0].since
}

// sent is the part to which the message goes that goes on now; if none is under way, one begins.
func (s *scene) sent() int {
	if s.under == noPart {
		// Where all lines are empty, the library says noPart's number, too.
		s.under = slices.IndexFunc(s.messages, func(l line) bool { return len(l) > 0 })
	}
	return s.under
}
