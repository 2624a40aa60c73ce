package kernel_test

import (
	"fmt"
	"slices"
	"testing"

	"punctual/api"
	"punctual/fixed"
	"punctual/kernel"
	"punctual/mach"
	"punctual/tasks"
	"punctual/wcet"
)

func TestAdmit(t *testing.T) {
	wantAdmit(t, "one", loads(loaded("a", 3, 9, 1, "work 3")), 3)
	wantAdmit(t, "no instructions", loads(loaded("a", 3, 9, 1, "")), 3)
	wantAdmit(t, "C counts, not what the image takes", loads(loaded("a", 5, 9, 1, "work 3")), 5)
	three := loads(loaded("a", 1, 4, 3, "work 1"), loaded("b", 2, 6, 2, "work 2"), loaded("c", 3, 12, 1, "work 3"))
	wantAdmit(t, "three", three, 1, 3, 10)
	wantAdmit(t, "just in time", loads(three[0], three[1], due(10, three[2])), 1, 3, 10)
	wantNoAdmit(t, "late", loads(three[0], three[1], due(9, three[2])), fault(api.ErrNone, 2))
	three[1].Task.O = 99
	wantAdmit(t, "O doesn't matter", three, 1, 3, 10)
	wantAdmit(t, "D at T", loads(due(9, loaded("a", 3, 9, 1, "work 3"))), 3)
	wantNoAdmit(t, "D above T", loads(three[0], due(10, loaded("d", 3, 9, 1, "work 3"))), fault(api.ErrOrder, 1))
	same := loads(loaded("a", 3, 20, 1, "work 3"), loaded("b", 4, 20, 1, "work 4"))
	wantAdmit(t, "the same P", same, 7, 7)
	both := loads(loaded("a", 3, 20, 1, "lock 0, work 1, unlock 0"), loaded("b", 4, 20, 1, "lock 0, work 2, unlock 0"))
	wantAdmit(t, "the same P, and locks: no block", both, 7, 7)
}

// TestAdmitBounds: what an image takes at worst, up to C.
func TestAdmitBounds(t *testing.T) {
	for _, text := range []string{"work 7", "work 3, lock 2, work 2, unlock 2", "count 0 1, work 1, again 0 1, work 1", "in 0, skip 4, work 3, jump 4, work 1", "push 1, out 3, work 4"} {
		bound, f := wcet.Analyse(image(text))
		if f != (api.Fault{}) {
			t.Fatal(text, f)
		}
		for c := bound.Worst - 1; c <= bound.Worst+1; c++ {
			l := loads(loaded("a", 1, 100, 9, ""), loaded("b", c, 100, 1, text))
			if c < bound.Worst {
				wantNoAdmit(t, text, l, fault(api.ErrSteps, 1))
				continue
			}
			wantAdmit(t, text, l, 1, c+1)
		}
	}
	// More than chapter 6 tells.
	endless := "count 0 1000, count 1 1000, count 2 1000, count 3 1000, work 9, again 3 4, again 2 3, again 1 2, again 0 1"
	if _, f := wcet.Analyse(image(endless)); f.Code != api.ErrRange {
		t.Fatal(f)
	}
	wantNoAdmit(t, "endless", loads(loaded("a", 1, 100, 9, ""), loaded("b", 10, 100, 1, endless)), fault(api.ErrSteps, 1))
	most := api.Loaded{Task: api.Task{Name: "a", C: api.MaxTime, T: api.MaxTime, D: api.MaxTime}, Image: slices.Repeat(image("work 1000"), 10)}
	wantAdmit(t, "as much as may be", loads(most), api.MaxTime)
	most.Image = append(most.Image, image("work 1")...)
	wantNoAdmit(t, "one more", loads(most), fault(api.ErrSteps, 0))
}

// TestAdmitOrder: which fault is told first.
func TestAdmitOrder(t *testing.T) {
	l := several(4)
	for i := range l {
		l[i].Task.D = 5 // the first one is late by its block, the others are behind it
	}
	wantNoAdmit(t, "late", l, fault(api.ErrNone, 0))
	l[2].Task.T = 4
	wantNoAdmit(t, "D above T, ahead of late", l, fault(api.ErrOrder, 2))
	l[3].Image = image("work 6")
	wantNoAdmit(t, "too much work, ahead of that", l, fault(api.ErrSteps, 3))
	l[3].Task.J = 1
	wantNoAdmit(t, "J, ahead of too much work", l, fault(api.ErrOrder, 3))
	l[1].Image = image("work 6")
	wantNoAdmit(t, "task by task", l, fault(api.ErrSteps, 1))
	l[0].Task.J = 1
	wantNoAdmit(t, "task by task, the first one", l, fault(api.ErrOrder, 0))
	l[3].Image = image("add")
	wantCheck(t, "what Check says, ahead of all", l, fault(api.ErrStack, 3))
	l[3].Task.Name = "A"
	wantCheck(t, "chapter 7 ahead of chapter 4", l, fault(api.ErrName, 3))
	for _, j := range []int{1, 2, api.MaxTime} {
		one := several(1)
		wantAdmit(t, "J 0", one, 5)
		one[0].Task.J = j
		wantNoAdmit(t, "J", one, fault(api.ErrOrder, 0))
	}
}

// TestBlocks: for how long those with a lesser P hold one up.
func TestBlocks(t *testing.T) {
	free, takes := "work 2", func(lock, n int) string { return fmt.Sprintf("lock %d, work %d, unlock %d", lock, n, lock) }
	task := func(name string, p int, text string) api.Loaded {
		bound, _ := wcet.Analyse(image(text))
		return loaded(name, bound.Worst, 1000, p, text)
	}
	wantAdmit(t, "nobody takes locks", loads(task("a", 3, free), task("b", 2, free), task("c", 1, free)), 2, 4, 6)
	wantAdmit(t, "no task behind one", loads(task("a", 1, takes(0, 3))), 5)
	wantAdmit(t, "the lock of one that goes ahead", loads(task("a", 2, takes(0, 3)), task("b", 1, free)), 5, 7)
	wantAdmit(t, "a ceiling below", loads(task("a", 2, free), task("b", 1, takes(0, 3))), 2, 7)
	wantAdmit(t, "a ceiling at its own P", loads(task("a", 2, takes(0, 1)), task("b", 1, takes(0, 6))), 3+7, 3+8)
	wantAdmit(t, "a ceiling at its own P, though it doesn't take the lock", loads(task("a", 2, free), task("b", 1, takes(0, 6)), task("c", 2, takes(0, 1))), 5+7, 5+8, 5+7)
	wantAdmit(t, "a ceiling above", loads(task("a", 3, takes(0, 1)), task("b", 2, free), task("c", 1, takes(0, 6))), 3+7, 5+7, 5+8)
	wantAdmit(t, "a ceiling of two below", loads(task("a", 4, free), task("b", 3, takes(0, 1)), task("c", 1, takes(0, 6))), 2, 5+7, 5+8)
	wantAdmit(t, "another lock", loads(task("a", 2, takes(1, 1)), task("b", 1, takes(0, 6))), 3, 3+8)
	wantAdmit(t, "P 0", loads(task("a", 0, takes(1, 1)), task("b", 0, takes(1, 6))), 3+8, 3+8)
	wantAdmit(t, "above P 0", loads(task("a", 1, takes(3, 1)), task("b", 0, takes(3, 6))), 3+7, 3+8)
	// Of several the greatest one alone, whoever has it, and wherever it stands in the list.
	two := takes(0, 4) + ", " + takes(1, 9)
	l := loads(task("a", 9, takes(0, 1)), task("b", 8, takes(1, 2)), task("c", 7, takes(0, 6)), task("d", 6, two))
	wantAdmit(t, "several that hold several locks", l, 3+7, 7+10, 15+10, 15+17)
	slices.Reverse(l)
	wantAdmit(t, "the other way round", l, 15+17, 15+10, 7+10, 3+7)
	// One lock within another: the outer one is held for longer.
	wantAdmit(t, "within one another, the inner one counts", loads(task("a", 2, takes(1, 1)), task("b", 1, "lock 0, work 5, lock 1, work 2, unlock 1, work 5, unlock 0")), 3+3, 3+16)
	wantAdmit(t, "within one another, the outer one counts", loads(task("a", 2, takes(0, 1)), task("b", 1, "lock 0, work 5, lock 1, work 2, unlock 1, work 5, unlock 0")), 3+15, 3+16)
	wantAdmit(t, "taken twice: the longer one", loads(task("a", 2, takes(0, 1)), task("b", 1, takes(0, 5)+", "+takes(0, 2))), 3+6, 3+11)
	// A block makes one late.
	pair := loads(task("a", 2, takes(0, 1)), task("b", 1, takes(0, 6)))
	wantAdmit(t, "just in time, with a block", loads(due(10, pair[0]), pair[1]), 10, 11)
	wantNoAdmit(t, "late, by a block", loads(due(9, pair[0]), pair[1]), fault(api.ErrNone, 0))
	// All four locks.
	for lock := range 4 {
		wantAdmit(t, "each lock", loads(task("a", 1000, takes(lock, 1)), task("b", 999, takes(lock, 6))), 3+7, 3+8)
	}
}

// otherAdmit is P16.2 word by word.
func otherAdmit(l []api.Loaded) ([]int, api.Fault) {
	var set []api.Task
	for _, t := range l {
		set = append(set, t.Task)
	}
	if f := tasks.Check(set); f.Code != api.OK {
		return nil, f
	}
	for i, t := range l {
		if f := mach.Check(t.Image); f.Code != api.OK {
			return nil, fault(f.Code, i)
		}
	}
	for i, t := range l {
		b, f := wcet.Analyse(t.Image)
		switch {
		case t.Task.J > 0:
			return nil, fault(api.ErrOrder, i)
		case f.Code != api.OK, t.Task.C < b.Worst:
			return nil, fault(api.ErrSteps, i)
		}
	}
	return fixed.Responses(set, otherBlocks(l))
}

func otherBlocks(l []api.Loaded) []int {
	var blocks []int
	for _, t := range l {
		block := 0
		for lock := range 4 {
			if ceiling(l, lock) < t.Task.P {
				continue
			}
			for _, low := range l {
				if held, _ := wcet.Held(low.Image); low.Task.P < t.Task.P {
					block = max(block, held[lock])
				}
			}
		}
		blocks = append(blocks, block)
	}
	return blocks
}

// TestAdmitMade: of made tasks what the rules say word by word, some of which aren't right.
func TestAdmitMade(t *testing.T) {
	m := newMaker(1)
	told := map[api.Errno]int{}
	blocked := 0
	for range 20000 {
		l := m.tasks(m.within(1, m.one(3, 5, 8)), m.one(10, 30, 60), m.Intn(8) == 0).l
		for n := m.one(0, 0, 0, 0, 1, 2); n > 0; n-- {
			one := &l[m.Intn(len(l))]
			switch m.Intn(5) {
			case 0:
				one.Task.J = m.one(0, 1, 7, -1)
			case 1:
				one.Task.D = one.Task.C + m.Intn(one.Task.T+2)
			case 2:
				one.Task.T = max(1, one.Task.D-m.Intn(3))
			case 3:
				one.Task.Name = "a"
			case 4:
				one.Image = append(slices.Clone(one.Image), api.Ins{Op: m.one(0, api.IWork, api.IUnlock, api.IPush), A: m.Intn(2)})
			}
		}
		want, f := otherAdmit(l)
		got, g := kernel.Admit(l)
		if f != g || !slices.Equal(got, want) || f.Code != api.OK && got != nil {
			t.Fatalf("Admit: %v %v, want %v %v (%v)", got, g, want, f, l)
		}
		told[f.Code]++
		if f.Code == api.OK && slices.Max(otherBlocks(l)) > 0 {
			blocked++
		}
	}
	for _, code := range []api.Errno{api.OK, api.ErrNone, api.ErrOrder, api.ErrSteps, api.ErrTwice, api.ErrOp, api.ErrRange, api.ErrLock, api.ErrStack} {
		if told[code] < 20 {
			t.Errorf("%d told %d times", code, told[code])
		}
	}
	if told[api.OK] < 2000 || blocked < 500 {
		t.Errorf("%d admitted, %d with blocks", told[api.OK], blocked)
	}
}
