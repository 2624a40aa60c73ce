package net_test

import (
	"slices"
	"testing"

	"punctual/api"
	"punctual/net"
)

// three are messages of which each may be late.
func three() []api.Frame { return frames(frame(2, 10, 5), frame(3, 10, 10), frame(4, 20, 1)) }

func TestSend(t *testing.T) {
	for _, c := range []struct {
		what      string
		come      []api.Come
		late      []int
		ran, ends []int
	}{
		{"no comes, no ticks", nil, nil, nil, nil},
		{"no comes", nil, nil, none(5), nil},
		{"no comes", comes(), ints(), none(5), nil},
		{"no ticks", comes(0, 0, 1, 1), ints(0, 0), nil, none(2)},
		{"one", comes(1, 2), ints(0), runs(-1, 2, 0, 3, -1, 2), ints(5)},
		{"one, not over at until", comes(1, 2), ints(0), runs(-1, 2, 0, 2), none(1)},
		{"one, just over at until", comes(1, 2), ints(0), runs(-1, 2, 0, 3), ints(5)},
		{"one that comes at until", comes(1, 4), ints(0), none(4), none(1)},
		{"one that is late", comes(1, 2), ints(3), runs(-1, 5, 0, 3, -1, 1), ints(8)},
		{"one that is as late as may be", comes(1, 2), ints(10), runs(-1, 12, 0, 3), ints(15)},
		{"one that is there at until", comes(1, 2), ints(3), none(5), none(1)},
		{"they come together", comes(2, 0, 1, 0, 0, 0), ints(0, 0, 0), runs(2, 2, 1, 3, 0, 4, -1, 1), ints(9, 5, 2)},
		{"they come together, but the first one is late", comes(0, 0, 1, 0, 2, 0), ints(1, 0, 0), runs(1, 3, 0, 2, 2, 4), ints(5, 3, 9)},
		{"they are there together, though they come apart", comes(0, 1, 1, 0), ints(2, 3), runs(-1, 3, 0, 2, 1, 3), ints(5, 8)},
		{"it waits for one on its way", comes(2, 0, 0, 1), ints(0, 0), runs(0, 4, 1, 2, -1, 1), ints(4, 6)},
		{"it waits for one that is in its last tick", comes(2, 0, 0, 3), ints(0, 0), runs(0, 4, 1, 2), ints(4, 6)},
		{"it comes as the other one ends", comes(2, 0, 0, 4), ints(0, 0), runs(0, 4, 1, 2), ints(4, 6)},
		{"it comes just as the other one would begin", comes(2, 1, 0, 1), ints(0, 0), runs(-1, 1, 1, 2, 0, 4), ints(7, 3)},
		{"two wait: the first one goes ahead", comes(1, 0, 2, 1, 0, 2), ints(0, 0, 0), runs(0, 3, 2, 2, 1, 4), ints(3, 9, 5)},
		{"several of one kind: as they come", comes(0, 0, 0, 1, 0, 2), ints(0, 0, 0), runs(0, 2, 1, 2, 2, 2, -1, 1), ints(2, 4, 6)},
		{"several of one kind: the sooner one, not the first one", comes(0, 3, 0, 1, 2, 0), ints(0, 0, 0), runs(2, 4, 1, 2, 0, 2), ints(8, 6, 4)},
		{"several of one kind: who is there sooner, not who comes sooner", comes(0, 0, 0, 2, 2, 0), ints(3, 0, 0), runs(2, 4, 1, 2, 0, 2), ints(8, 6, 4)},
		{"several of one kind, there at one time: the first one", comes(0, 3, 0, 1, 2, 0), ints(0, 2, 0), runs(2, 4, 0, 2, 1, 2), ints(6, 8, 4)},
		{"one of the same kind isn't stopped", comes(0, 1, 0, 0), ints(0, 0), runs(1, 2, 0, 2), ints(4, 2)},
		{"one that goes ahead each time", comes(2, 0, 1, 1, 0, 2, 0, 6), ints(0, 0, 0, 0), runs(0, 4, 2, 2, 3, 2, 1, 3), ints(4, 11, 6, 8)},
		{"there is time between", comes(2, 0, 1, 6), ints(1, 0), runs(-1, 1, 0, 4, -1, 1, 1, 3), ints(5, 9)},
		{"at the last time", comes(0, api.MaxUntil), ints(5), none(api.MaxUntil), none(1)},
		{"in the last ticks", comes(0, api.MaxUntil-2), ints(0), runs(-1, api.MaxUntil-2, 0, 2), ints(api.MaxUntil)},
	} {
		wantSend(t, c.what, three(), c.come, c.late, c.ran, c.ends)
	}
}

// TestSendMessages: the first one of the list goes ahead, of as many as may be; how long each takes is its C.
func TestSendMessages(t *testing.T) {
	var l []api.Frame
	var come []api.Come
	var ran []int
	for i := range api.MaxTasks {
		l = append(l, api.Frame{C: i + 1, T: 1, D: 1, J: 1}) // neither T nor D is asked
		come = append(come, api.Come{Task: api.MaxTasks - 1 - i})
		ran = append(ran, runs(api.MaxTasks-1-i, i+1)...)
	}
	wantSend(t, "eight together", l, come, make([]int, 8), ran, ints(36, 28, 21, 15, 10, 6, 3, 1))
	wantSend(t, "one alone", frames(till(1, 1, 1)), comes(0, 0), ints(0), runs(0, 1, -1, 1), ints(1))
	long := frames(frame(api.MaxTime, api.MaxTime, api.MaxTime))
	wantSend(t, "as long, and as late, as may be", long, comes(0, 0), ints(api.MaxTime), runs(-1, api.MaxTime, 0, api.MaxTime), ints(2*api.MaxTime))
	wantSend(t, "as late as may be", long, comes(0, api.MaxUntil), ints(api.MaxTime), none(api.MaxUntil), none(1))
}

// TestSendWrong: first what Check says (of which wantCheck knows), then how many, then come by come, then until.
func TestSendWrong(t *testing.T) {
	bad := func(what string, come []api.Come, late []int, until int, want api.Fault) {
		t.Helper()
		wantNoSend(t, what, three(), come, late, until, want)
	}
	good := func(what string, come []api.Come, late []int, until int) {
		t.Helper()
		if p, f := net.Send(three(), come, late, until); f != (api.Fault{}) || len(p.Runs) != until || len(p.Ends) != len(come) {
			t.Errorf("Send, %s, until %d: %v", what, until, f)
		}
	}
	come, late := comes(0, 0, 2, 3, 1, 5), ints(5, 1, 10)
	most, ofMost := slices.Repeat(come[:1], api.MaxJobs), make([]int, api.MaxJobs)
	good("as many as may be", most, ofMost, 100)
	notUntil := append(far(), -1, api.MaxUntil+1)
	for _, until := range append(notUntil, 0, 9, api.MaxUntil) {
		bad("one more", append(most, come[0]), append(ofMost, 0), until, fault(api.ErrMany, 0))
		bad("one more, and a wrong one", append(comes(-1, -1), most...), append(ofMost, -1), until, fault(api.ErrMany, 0))
		for _, l := range lists(nil, late[:2], append(late[:3:3], 0)) {
			bad("late of another length", come, l, until, fault(api.ErrMany, 0))
			bad("late of another length, and a wrong one", comes(3, 0, 0, -1, 0, 0), l, until, fault(api.ErrMany, 0))
		}
		bad("late of none that come", nil, ints(0), until, fault(api.ErrMany, 0))
		bad("late of none, of as many as may be", most, nil, until, fault(api.ErrMany, 0))
		for i, c := range come {
			name := func(n int) []api.Come { return changed(come, i, func(c *api.Come) { c.Task = n }) }
			at := func(n int) []api.Come { return changed(come, i, func(c *api.Come) { c.At = n }) }
			for _, n := range append(far(), -1, 3, api.MaxTasks) {
				bad("no such message", name(n), late, until, fault(api.ErrName, i))
				bad("no such message, at no time", changed(name(n), i, func(c *api.Come) { c.At = -1 }), late, until, fault(api.ErrName, i))
				bad("no such message, and it is too late", name(n), with(late, i, -1), until, fault(api.ErrName, i))
			}
			for _, n := range append(far(), -1, api.MaxUntil+1) {
				bad("At", at(n), late, until, fault(api.ErrRange, i))
			}
			for _, n := range append(far(), -1, three()[c.Task].J+1, api.MaxTime) {
				bad("late", come, with(late, i, n), until, fault(api.ErrRange, i))
			}
			for k := i + 1; k < len(come); k++ {
				nameless := func(l []api.Come) []api.Come { return changed(l, k, func(c *api.Come) { c.Task = 3 }) }
				bad("late, then a name", nameless(come), with(late, i, -1), until, fault(api.ErrRange, i))
				bad("At, then a name", nameless(at(-1)), late, until, fault(api.ErrRange, i))
				bad("a name, then late", name(3), with(late, k, -1), until, fault(api.ErrName, i))
				bad("a name, then At", changed(name(3), k, func(c *api.Come) { c.At = -1 }), late, until, fault(api.ErrName, i))
			}
		}
	}
	for _, until := range notUntil {
		bad("until", come, late, until, fault(api.ErrRange, 0))
		bad("until, and no comes", nil, nil, until, fault(api.ErrRange, 0))
	}
	for _, until := range ints(0, 1, api.MaxUntil) {
		good("until", come, late, until)
		for i, c := range come {
			for _, n := range ints(0, 1, api.MaxUntil) {
				good("At", changed(come, i, func(c *api.Come) { c.At = n }), late, until)
			}
			for _, n := range ints(0, 1, three()[c.Task].J) {
				good("late", come, with(late, i, n), until)
			}
		}
	}
}

// TestSendAnotherWay: they go as the rules say word by word, however they come: also oftener than every T, and in no order.
func TestSendAnotherWay(t *testing.T) {
	m := newMaker(158)
	var s sent
	for range 12000 {
		l := m.frames(m.within(1, 6), m.one(6, 12), m.one(60, 100, 200))
		come := make([]api.Come, m.Intn(14))
		late := make([]int, len(come))
		for i := range come {
			k := m.Intn(len(l))
			come[i] = api.Come{Task: k, At: m.Intn(m.one(3, 12, 25))}
			late[i] = m.Intn(l[k].J + 1)
		}
		ran, ends := s.otherSend(l, come, late, m.Intn(50))
		wantSend(t, "made", l, come, late, ran, ends)
	}
	if s.waits < 3000 || s.together < 30000 || s.same < 10000 || s.open < 10000 {
		t.Errorf("seen: %+v", s)
	}
}

// TestSendShort: all that up to three of two messages may do.
func TestSendShort(t *testing.T) {
	var s sent
	for _, l := range [][]api.Frame{
		frames(frame(1, 9, 2), frame(3, 9, 0)),
		frames(frame(2, 9, 0), frame(2, 9, 1)),
	} {
		var lay func(come []api.Come, late []int)
		lay = func(come []api.Come, late []int) {
			for _, until := range ints(4, 12) {
				ran, ends := s.otherSend(l, come, late, until)
				wantSend(t, "short", l, come, late, ran, ends)
			}
			if len(come) == 3 {
				return
			}
			for i, f := range l {
				for at := range 4 {
					for n := range f.J + 1 {
						lay(append(slices.Clip(come), api.Come{Task: i, At: at}), append(slices.Clip(late), n))
					}
				}
			}
		}
		lay(nil, nil)
	}
	if min(s.waits, s.together, s.same, s.open) < 500 {
		t.Errorf("seen: %+v", s)
	}
}

// TestSendMany: as many as may be, over all ticks: the bus is never free, and the last message of all waits till the end.
func TestSendMany(t *testing.T) {
	l := frames(till(5, 5, 5), till(5, 5, 5))
	come, ends := make([]api.Come, api.MaxJobs), make([]int, api.MaxJobs)
	var ran []int
	for i := range come {
		come[i] = api.Come{Task: 0, At: 5 * i}
		ends[i] = 5 * (i + 1)
		ran = append(ran, runs(i, 5)...)
	}
	wantSend(t, "many", l, come, make([]int, len(come)), ran, ends)
	come[0], ends[0] = api.Come{Task: 1, At: 0}, 5
	wantSend(t, "many, and another one at first", l, come, make([]int, len(come)), ran, ends)
	come[0] = api.Come{Task: 1, At: 1} // one tick is lost, and then it is never free again
	ran = append(runs(-1, 1), ran[:api.MaxUntil-1]...)
	for i := range ends {
		ends[i]++
	}
	ends[len(ends)-1] = -1
	wantSend(t, "many, a tick later", l, come, make([]int, len(come)), ran, ends)
}

// TestSendOnlyReads: what is handed in, and the room behind it, stays as it is, and each answer is new.
func TestSendOnlyReads(t *testing.T) {
	m := newMaker(159)
	for range 300 {
		l := m.frames(m.within(1, 6), 12, 80)
		come := m.comes(l, 30)
		late := m.late(l, come)
		n := m.Intn(len(come) + 1)
		keptFrames, keptCome, keptLate := slices.Clone(l), slices.Clone(come), slices.Clone(late)
		p, _ := net.Send(l, come[:n], late[:n], 40)
		again, _ := net.Send(l, come[:n], late[:n], 40)
		fill(p.Runs, -7)
		if slices.Contains(p.Ends, -7) {
			t.Fatalf("Runs and Ends share memory")
		}
		fill(p.Ends, -7)
		wantSend(t, "again", l, come[:n], late[:n], again.Runs, again.Ends)
		if slices.Contains(again.Runs, -7) || slices.Contains(again.Ends, -7) {
			t.Fatalf("two answers share memory")
		}
		if !slices.Equal(l, keptFrames) || !slices.Equal(come, keptCome) || !slices.Equal(late, keptLate) {
			t.Fatalf("changed: %v %v %v", l, come, late)
		}
	}
}
