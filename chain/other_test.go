package chain_test

import (
	"slices"

	"punctual/api"
)

// open is a job of a part for a coming, or a message to it, which isn't done.
type open struct{ coming, part, since int }

// stage is how otherPlay plays: nothing is kept but how many ticks each job, and each message, has had, and when it was done.
type stage struct {
	parts  []api.Part
	come   []api.Come
	takes  []int
	worked [][]int // for each coming, of each part: ticks
	ends   [][]int // likewise: when its job was done
	sent   [][]int // likewise: ticks of the message to it
	over   [][]int // likewise: when that was over
	seen   seen
}

// seen is what otherPlay sees on its way.
type seen struct {
	waits  int // ticks in which a job is there, but another one of its core runs
	same   int // of these: that has the same P
	later  int // of these: and a higher number
	stops  int // ticks in which one runs though another one that has begun isn't done
	holds  int // ticks in which a message of a higher part goes on though one of a lower part is there
	queue  int // ticks in which two messages to one part are there
	chance int // ticks in which a message begins though another one is there since earlier
}

// table is a list for each coming.
func (s *stage) table(n int) [][]int {
	var t [][]int
	for range s.come {
		t = append(t, slices.Repeat(ints(n), len(s.parts)))
	}
	return t
}

// long is how long a job works, word by word.
func (s *stage) long(n, k int) int {
	if len(s.takes) == 0 {
		return s.parts[k].C
	}
	number := n*len(s.parts) + k
	for number >= len(s.takes) {
		number -= len(s.takes)
	}
	return 1 + s.takes[number]%s.parts[k].C
}

// jobs are those that are there on a core.
func (s *stage) jobs(core, now int) []open {
	var l []open
	for n, c := range s.come {
		for k, p := range s.parts {
			since := -1
			switch {
			case p.From == -1 && c.Task == k:
				since = c.At
			case p.From >= 0 && p.Send == 0:
				since = s.ends[n][p.From]
			case p.From >= 0:
				since = s.over[n][k]
			}
			if p.Core == core && since >= 0 && since <= now && s.ends[n][k] < 0 {
				l = append(l, open{n, k, since})
			}
		}
	}
	return l
}

// messages are those that are there.
func (s *stage) messages(now int) []open {
	var l []open
	for n := range s.come {
		for k, p := range s.parts {
			if p.Send != 0 && s.ends[n][p.From] >= 0 && s.ends[n][p.From] <= now && s.over[n][k] < 0 {
				l = append(l, open{n, k, s.ends[n][p.From]})
			}
		}
	}
	return l
}

// first is the one whose numbers, one by one, are the least.
func first(l []open, numbers func(o open) []int) open {
	return slices.MinFunc(l, func(a, b open) int { return slices.Compare(numbers(a), numbers(b)) })
}

// runs is the job that runs of those that are there on a core.
func (s *stage) runs(l []open) open {
	who := first(l, func(o open) []int { return ints(-s.parts[o.part].P, o.since, o.part, o.coming) })
	for _, o := range l {
		if o == who {
			continue
		}
		s.seen.waits++
		if s.parts[o.part].P == s.parts[who.part].P {
			s.seen.same++
			if o.part < who.part {
				s.seen.later++
			}
		}
		if s.worked[o.coming][o.part] > 0 {
			s.seen.stops++
		}
	}
	return who
}

// goes is the message that goes on of those that are there.
func (s *stage) goes(l []open) open {
	who := first(l, func(o open) []int { return ints(o.part, o.since, o.coming) })
	for _, o := range l {
		if s.sent[o.coming][o.part] > 0 {
			if who.part < o.part {
				s.seen.holds++
			}
			return o
		}
	}
	for _, o := range l {
		if o.part == who.part && o != who {
			s.seen.queue++
		}
		if o.since < who.since {
			s.seen.chance++
		}
	}
	return who
}

// otherPlay is P18.4 word by word, of what nothing is wrong with: in each tick all comings and all parts are gone through.
func otherPlay(l []api.Part, come []api.Come, takes []int, until int) ([][]int, seen) {
	s := &stage{parts: l, come: come, takes: takes}
	s.worked, s.ends, s.sent, s.over = s.table(0), s.table(-1), s.table(0), s.table(-1)
	for now := range until {
		var work []open
		for core := range api.MaxCores {
			if there := s.jobs(core, now); len(there) > 0 {
				work = append(work, s.runs(there))
			}
		}
		if there := s.messages(now); len(there) > 0 {
			o := s.goes(there)
			if s.sent[o.coming][o.part]++; s.sent[o.coming][o.part] == l[o.part].Send {
				s.over[o.coming][o.part] = now + 1
			}
		}
		for _, o := range work {
			if s.worked[o.coming][o.part]++; s.worked[o.coming][o.part] == s.long(o.coming, o.part) {
				s.ends[o.coming][o.part] = now + 1
			}
		}
	}
	return s.ends, s.seen
}
