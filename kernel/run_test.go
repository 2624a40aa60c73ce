package kernel_test

import (
	"fmt"
	"math"
	"slices"
	"testing"

	"punctual/api"
	"punctual/kernel"
)

func TestRun(t *testing.T) {
	one := loads(loaded("a", 3, 9, 1, "work 3"))
	wantRun(t, "nothing comes", one, nil, 9, "")
	wantRun(t, "alone", one, come(0, 2), 9, "2 come 0 0, 2 run 0 0, 5 done 0 0")
	wantRun(t, "again and again", one, come(0, 0, 0, 9, 0, 20), 30, "0 come 0 0, 0 run 0 0, 3 done 0 0, 9 come 0 1, 9 run 0 1, 12 done 0 1, 20 come 0 2, 20 run 0 2, 23 done 0 2")
	two := loads(loaded("a", 2, 9, 1, "work 2"), loaded("b", 1, 9, 2, "work 1"))
	wantRun(t, "together", two, come(0, 0, 1, 0), 9, "0 come 0 0, 0 come 1 1, 0 run 1 1, 1 done 1 1, 1 run 0 0, 3 done 0 0")
	wantRun(t, "together, the other way round", two, come(1, 0, 0, 0), 9, "0 come 1 0, 0 come 0 1, 0 run 1 0, 1 done 1 0, 1 run 0 1, 3 done 0 1")
	wantRun(t, "as one is done", two, come(0, 0, 1, 2), 9, "0 come 0 0, 0 run 0 0, 2 done 0 0, 2 come 1 1, 2 run 1 1, 3 done 1 1")
	stopped := loads(loaded("a", 5, 9, 1, "work 5"), loaded("b", 2, 9, 2, "work 2"))
	wantRun(t, "stopped", stopped, come(0, 0, 1, 2), 9, "0 come 0 0, 0 run 0 0, 2 come 1 1, 2 run 1 1, 4 done 1 1, 4 run 0 0, 7 done 0 0")
	deep := loads(loaded("a", 3, 20, 1, "work 3"), loaded("b", 3, 20, 2, "work 1, work 1, work 1"), loaded("c", 1, 20, 3, "work 1"))
	wantRun(t, "stopped, and those that stop it, too", deep, come(0, 0, 1, 1, 2, 2), 9, "0 come 0 0, 0 run 0 0, 1 come 1 1, 1 run 1 1, 2 come 2 2, 2 run 2 2, 3 done 2 2, 3 run 1 1, 5 done 1 1, 5 run 0 0, 7 done 0 0")
	early := loads(stopped[0], stopped[1])
	early[0].Task.J, early[1].Task.J, early[1].Task.O = 7, 7, 7
	wantRun(t, "J and O don't matter", early, come(0, 0, 1, 2), 9, "0 come 0 0, 0 run 0 0, 2 come 1 1, 2 run 1 1, 4 done 1 1, 4 run 0 0, 7 done 0 0")
	// One that ran in the tick ahead runs on, whatever comes: nothing is told of it.
	wantRun(t, "not stopped", stopped, come(1, 0, 0, 1), 9, "0 come 1 0, 0 run 1 0, 1 come 0 1, 2 done 1 0, 2 run 0 1, 7 done 0 1")
}

// TestRunSame: of the same priority one that has begun, then who came first.
func TestRunSame(t *testing.T) {
	l := loads(loaded("a", 2, 9, 5, "work 2"), loaded("b", 2, 9, 5, "work 2"))
	wantRun(t, "together", l, come(1, 0, 0, 0), 9, "0 come 1 0, 0 come 0 1, 0 run 1 0, 2 done 1 0, 2 run 0 1, 4 done 0 1")
	wantRun(t, "one has begun", l, come(1, 0, 0, 1), 9, "0 come 1 0, 0 run 1 0, 1 come 0 1, 2 done 1 0, 2 run 0 1, 4 done 0 1")
	own := loads(loaded("a", 4, 1, 5, "work 4"))
	own[0].Task.D = 9
	wantRun(t, "of one task", own, come(0, 0, 0, 1, 0, 2), 14, "0 come 0 0, 0 run 0 0, 1 come 0 1, 2 come 0 2, 4 done 0 0, 4 run 0 1, 8 done 0 1, 8 run 0 2, 11 late 0 2, 12 done 0 2")
	// One has a lock whose ceiling is the other's P.
	raised := loads(loaded("a", 5, 30, 1, "lock 0, work 3, unlock 0"), loaded("b", 4, 30, 2, "work 4"), loaded("c", 3, 30, 2, "lock 0, work 1, unlock 0"))
	wantRun(t, "raised to the same", raised, come(0, 0, 1, 1, 2, 2), 30, "0 come 0 0, 0 run 0 0, 1 come 1 1, 2 come 2 2, 5 done 0 0, 5 run 1 1, 9 done 1 1, 9 run 2 2, 12 done 2 2")
	wantRun(t, "together, when nobody holds the lock yet", raised, come(0, 0, 2, 0), 30, "0 come 0 0, 0 come 2 1, 0 run 2 1, 3 done 2 1, 3 run 0 0, 8 done 0 0")
}

// TestRunEmpty: images with no instructions are done when they go first, and never run.
func TestRunEmpty(t *testing.T) {
	none := loads(loaded("a", 1, 9, 1, ""))
	wantRun(t, "alone", none, come(0, 3), 5, "3 come 0 0, 3 done 0 0")
	wantRun(t, "at until", none, come(0, 5), 5, "")
	wantRun(t, "ahead of until", none, come(0, 4), 5, "4 come 0 0, 4 done 0 0")
	l := loads(loaded("a", 1, 9, 1, ""), loaded("b", 2, 9, 2, ""), loaded("c", 1, 9, 3, ""), loaded("d", 3, 9, 2, "work 3"))
	wantRun(t, "several in a row", l, come(0, 1, 1, 1, 2, 1), 5, "1 come 0 0, 1 come 1 1, 1 come 2 2, 1 done 2 2, 1 done 1 1, 1 done 0 0")
	wantRun(t, "and one that runs among them", l, come(0, 1, 1, 1, 2, 1, 3, 1), 9, "1 come 0 0, 1 come 1 1, 1 come 2 2, 1 come 3 3, 1 done 2 2, 1 done 1 1, 1 run 3 3, 4 done 3 3, 4 done 0 0")
	wantRun(t, "and one that runs ahead of some", l, come(3, 1, 0, 1, 1, 1, 2, 1), 9, "1 come 3 0, 1 come 0 1, 1 come 1 2, 1 come 2 3, 1 done 2 3, 1 run 3 0, 4 done 3 0, 4 done 1 2, 4 done 0 1")
	wantRun(t, "in the midst of another one, which goes on", l, come(3, 0, 2, 1), 9, "0 come 3 0, 0 run 3 0, 1 come 2 1, 1 done 2 1, 3 done 3 0")
	wantRun(t, "behind one of the same P", l, come(3, 0, 1, 1), 9, "0 come 3 0, 0 run 3 0, 1 come 1 1, 3 done 3 0, 3 done 1 1")
	wantRun(t, "behind one with a greater P", l, come(3, 0, 0, 1), 9, "0 come 3 0, 0 run 3 0, 1 come 0 1, 3 done 3 0, 3 done 0 1")
	wantRun(t, "it would be its turn at until", l, come(3, 0, 0, 1), 3, "0 come 3 0, 0 run 3 0, 1 come 0 1, 3 done 3 0")
	late := loads(due(2, loaded("a", 1, 9, 1, "")), loaded("b", 3, 9, 2, "work 3"))
	wantRun(t, "late", late, come(0, 0, 1, 0), 9, "0 come 0 0, 0 come 1 1, 0 run 1 1, 2 late 0 0, 3 done 1 1, 3 done 0 0")
}

// TestRunLocks: who holds a lock has its ceiling, from behind ILock to behind IUnlock.
func TestRunLocks(t *testing.T) {
	l := loads(loaded("a", 3, 50, 3, "lock 0, work 1, unlock 0"), loaded("b", 2, 50, 2, "work 2"), loaded("c", 9, 50, 1, "work 1, lock 0, work 3, unlock 0, work 2"))
	wantRun(t, "ahead of ILock", l, come(2, 0, 0, 1), 20, "0 come 2 0, 0 run 2 0, 1 come 0 1, 1 run 0 1, 4 done 0 1, 4 run 2 0, 11 done 2 0")
	l[2].Task.C = 8
	wantRun(t, "just behind ILock", l, come(2, 0, 0, 2), 20, "0 come 2 0, 0 run 2 0, 2 come 0 1, 6 run 0 1, 9 done 0 1, 9 run 2 0, 11 done 2 0")
	wantRun(t, "just ahead of IUnlock", l, come(2, 0, 0, 5), 20, "0 come 2 0, 0 run 2 0, 5 come 0 1, 6 run 0 1, 9 done 0 1, 9 run 2 0, 11 done 2 0")
	wantRun(t, "behind IUnlock", l, come(2, 0, 0, 6), 20, "0 come 2 0, 0 run 2 0, 6 come 0 1, 6 run 0 1, 9 done 0 1, 9 run 2 0, 11 done 2 0")
	wantRun(t, "one in between waits, too", l, come(2, 0, 1, 2), 20, "0 come 2 0, 0 run 2 0, 2 come 1 1, 6 run 1 1, 8 done 1 1, 8 run 2 0, 10 done 2 0")
	wantRun(t, "both", l, come(2, 0, 1, 2, 0, 3), 20, "0 come 2 0, 0 run 2 0, 2 come 1 1, 3 come 0 2, 6 run 0 2, 9 done 0 2, 9 run 1 1, 11 done 1 1, 11 run 2 0, 13 done 2 0")
	above := append(slices.Clone(l), loaded("d", 1, 50, 4, "work 1"))
	wantRun(t, "one above the ceiling doesn't wait", above, come(2, 0, 3, 3), 20, "0 come 2 0, 0 run 2 0, 3 come 3 1, 3 run 3 1, 4 done 3 1, 4 run 2 0, 9 done 2 0")
	wantRun(t, "and it goes on holding the lock", above, come(2, 0, 3, 3, 0, 3), 20, "0 come 2 0, 0 run 2 0, 3 come 3 1, 3 come 0 2, 3 run 3 1, 4 done 3 1, 4 run 2 0, 7 run 0 2, 10 done 0 2, 10 run 2 0, 12 done 2 0")
	inner := loads(loaded("a", 3, 50, 3, "lock 1, work 1, unlock 1"), loaded("b", 3, 50, 2, "lock 0, work 1, unlock 0"), loaded("c", 9, 50, 1, "lock 0, work 1, lock 1, work 1, unlock 1, work 1, unlock 0"))
	wantRun(t, "the greater ceiling within", inner, come(2, 0, 0, 3, 1, 3), 20, "0 come 2 0, 0 run 2 0, 3 come 0 1, 3 come 1 2, 5 run 0 1, 8 done 0 1, 8 run 2 0, 10 done 2 0, 10 run 1 2, 13 done 1 2")
	outer := loads(loaded("a", 3, 50, 3, "lock 0, work 1, unlock 0"), loaded("b", 3, 50, 2, "lock 1, work 1, unlock 1"), inner[2])
	wantRun(t, "the greater ceiling around", outer, come(2, 0, 0, 3, 1, 3), 20, "0 come 2 0, 0 run 2 0, 3 come 0 1, 3 come 1 2, 7 done 2 0, 7 run 0 1, 10 done 0 1, 10 run 1 2, 13 done 1 2")
	alone := loads(loaded("a", 2, 50, 3, "work 2"), loaded("b", 9, 50, 2, "lock 3, work 3, unlock 3"))
	wantRun(t, "a lock that it takes alone raises nobody", alone, come(1, 0, 0, 2), 20, "0 come 1 0, 0 run 1 0, 2 come 0 1, 2 run 0 1, 4 done 0 1, 4 run 1 0, 7 done 1 0")
	loops := loads(loaded("a", 3, 50, 3, "lock 2, work 1, unlock 2"), loaded("b", 20, 50, 1, "count 0 1, lock 2, work 1, unlock 2, again 0 1"))
	wantRun(t, "again and again", loops, come(1, 0, 0, 7), 30, "0 come 1 0, 0 run 1 0, 7 come 0 1, 9 run 0 1, 12 done 0 1, 12 run 1 0, 13 done 1 0")
	for lock := range 4 {
		one := loads(loaded("a", 1, 50, 1, ""), loaded("b", 9, 50, 0, fmt.Sprintf("lock %d, work 2, unlock %d", lock, lock)), loaded("c", 3, 50, 1, fmt.Sprintf("lock %d, unlock %d", lock, lock)))
		wantRun(t, "each lock", one, come(1, 0, 0, 1), 30, "0 come 1 0, 0 run 1 0, 1 come 0 1, 4 done 1 0, 4 done 0 1")
	}
}

// TestRunPuts: what goes out is told at the end of the tick with which it does.
func TestRunPuts(t *testing.T) {
	l := loads(loaded("a", 20, 50, 1, "push 999999999, out 0, in 1, out 3, push 0, push 1, sub, out 2, in 0, out 1"))
	wantRunWith(t, "numbers", l, come(0, 0), ints(math.MinInt, math.MaxInt, 0, 0), 30,
		"0 come 0 0, 0 run 0 0, 3 put 0 0 999999999, 7 put 0 3 9223372036854775807, 12 put 0 2 -1, 16 put 0 1 -9223372036854775808, 16 done 0 0")
	wantRunWith(t, "other inputs", l, come(0, 0), ints(5, -6, 7, 8), 30,
		"0 come 0 0, 0 run 0 0, 3 put 0 0 999999999, 7 put 0 3 -6, 12 put 0 2 -1, 16 put 0 1 5, 16 done 0 0")
	wantRun(t, "until ahead of a put", l, come(0, 0), 2, "0 come 0 0, 0 run 0 0")
	wantRun(t, "until at a put", l, come(0, 0), 3, "0 come 0 0, 0 run 0 0, 3 put 0 0 999999999")
	// Stopped in the midst of an IOut; N is the number that goes out, not the job's.
	two := loads(loaded("a", 1, 50, 2, "work 1"), loaded("b", 9, 50, 1, "push 7, out 2"))
	wantRun(t, "stopped", two, come(0, 0, 1, 1, 0, 53), 54, "0 come 0 0, 0 run 0 0, 1 done 0 0, 1 come 1 1, 1 run 1 1, 4 put 1 2 7, 4 done 1 1, 53 come 0 2, 53 run 0 2, 54 done 0 2")
	wantRun(t, "stopped in the midst", two, come(1, 0, 0, 2), 9, "0 come 1 0, 0 run 1 0, 2 come 0 1, 2 run 0 1, 3 done 0 1, 3 run 1 0, 4 put 1 2 7, 4 done 1 0")
	// Each job begins with variables that are 0, whatever others of its task did.
	counts := loads(loaded("a", 20, 20, 1, "load 0, push 1, add, store 0, load 0, out 0, count 7 1, load 0, out 1, again 7 7"))
	wantRun(t, "variables", counts, come(0, 0, 0, 20), 40, "0 come 0 0, 0 run 0 0, 7 put 0 0 1, 11 put 0 1 1, 16 put 0 1 1, 17 done 0 0, 20 come 0 1, 20 run 0 1, 27 put 0 0 1, 31 put 0 1 1, 36 put 0 1 1, 37 done 0 1")
}

// TestRunKill: one that has had C ticks and isn't done is over.
func TestRunKill(t *testing.T) {
	wantRun(t, "done with its last tick", loads(loaded("a", 3, 9, 1, "work 3")), come(0, 0), 9, "0 come 0 0, 0 run 0 0, 3 done 0 0")
	wantRun(t, "one tick too few", loads(loaded("a", 2, 9, 1, "work 3")), come(0, 0), 9, "0 come 0 0, 0 run 0 0, 2 kill 0 0")
	wantRun(t, "between two instructions", loads(loaded("a", 2, 9, 1, "work 2, work 1")), come(0, 0), 9, "0 come 0 0, 0 run 0 0, 2 kill 0 0")
	wantRun(t, "C 1", loads(loaded("a", 1, 9, 1, "work 9")), come(0, 0, 0, 9), 12, "0 come 0 0, 0 run 0 0, 1 kill 0 0, 9 come 0 1, 9 run 0 1, 10 kill 0 1")
	wantRun(t, "with a put", loads(loaded("a", 3, 9, 1, "push 4, out 1, work 1")), come(0, 0), 9, "0 come 0 0, 0 run 0 0, 3 put 0 1 4, 3 kill 0 0")
	wantRun(t, "a tick ahead of a put", loads(loaded("a", 2, 9, 1, "push 4, out 1, work 1")), come(0, 0), 9, "0 come 0 0, 0 run 0 0, 2 kill 0 0")
	// The ticks that it runs count alone.
	two := loads(loaded("a", 2, 9, 2, "work 2"), loaded("b", 3, 20, 1, "work 4"))
	wantRun(t, "stopped", two, come(1, 0, 0, 1), 9, "0 come 1 0, 0 run 1 0, 1 come 0 1, 1 run 0 1, 3 done 0 1, 3 run 1 0, 5 kill 1 0")
	// It holds a lock: others go on at once, in the order of their own priorities.
	held := loads(loaded("a", 3, 50, 3, "lock 0, work 1, unlock 0"), loaded("b", 2, 50, 2, "work 2"), loaded("c", 3, 50, 1, "lock 0, work 9, unlock 0"))
	wantRun(t, "while it holds a lock", held, come(2, 0, 1, 1, 0, 1), 20, "0 come 2 0, 0 run 2 0, 1 come 1 1, 1 come 0 2, 3 kill 2 0, 3 run 0 2, 6 done 0 2, 6 run 1 1, 8 done 1 1")
	wantRun(t, "and it doesn't come again", held, come(2, 0), 20, "0 come 2 0, 0 run 2 0, 3 kill 2 0")
	wantRun(t, "until is its end", held, come(2, 0), 3, "0 come 2 0, 0 run 2 0, 3 kill 2 0")
	wantRun(t, "until is ahead of its end", held, come(2, 0), 2, "0 come 2 0, 0 run 2 0")
}

// TestRunLate: one that isn't over when it is due, and goes on.
func TestRunLate(t *testing.T) {
	two := loads(loaded("a", 4, 20, 2, "work 4"), due(6, loaded("b", 3, 20, 1, "work 3")))
	wantRun(t, "late, and then done", two, come(0, 0, 1, 0), 20, "0 come 0 0, 0 come 1 1, 0 run 0 0, 4 done 0 0, 4 run 1 1, 6 late 1 1, 7 done 1 1")
	wantRun(t, "done when it is due", two, come(0, 0, 1, 1), 20, "0 come 0 0, 0 run 0 0, 1 come 1 1, 4 done 0 0, 4 run 1 1, 7 done 1 1")
	wantRun(t, "due at until", two, come(0, 0, 1, 0), 6, "0 come 0 0, 0 come 1 1, 0 run 0 0, 4 done 0 0, 4 run 1 1, 6 late 1 1")
	wantRun(t, "due behind until", two, come(0, 0, 1, 0), 5, "0 come 0 0, 0 come 1 1, 0 run 0 0, 4 done 0 0, 4 run 1 1")
	wantRun(t, "due at until, and done", two, come(0, 0, 1, 1), 7, "0 come 0 0, 0 run 0 0, 1 come 1 1, 4 done 0 0, 4 run 1 1, 7 done 1 1")
	two[1] = due(3, loaded("b", 2, 20, 1, "work 3"))
	wantRun(t, "late, and then over", two, come(0, 0, 1, 0), 20, "0 come 0 0, 0 come 1 1, 0 run 0 0, 3 late 1 1, 4 done 0 0, 4 run 1 1, 6 kill 1 1")
	wantRun(t, "over when it is due", loads(due(2, loaded("b", 2, 20, 1, "work 3"))), come(0, 0), 20, "0 come 0 0, 0 run 0 0, 2 kill 0 0")
	// Several that are due together: in the order in which they came, which isn't that of their priorities.
	three := loads(loaded("a", 9, 20, 3, "work 9"), due(4, loaded("b", 1, 20, 1, "work 1")), due(3, loaded("c", 1, 20, 2, "work 1")))
	wantRun(t, "several", three, come(0, 0, 1, 1, 2, 2), 12, "0 come 0 0, 0 run 0 0, 1 come 1 1, 2 come 2 2, 5 late 1 1, 5 late 2 2, 9 done 0 0, 9 run 2 2, 10 done 2 2, 10 run 1 1, 11 done 1 1")
	three[1].Task.D, three[2].Task.D = 3, 4
	wantRun(t, "several, the other one first", three, come(0, 0, 2, 1, 1, 2), 5, "0 come 0 0, 0 run 0 0, 1 come 2 1, 2 come 1 2, 5 late 2 1, 5 late 1 2")
	// D may be above T: two of one task are late, one behind the other.
	own := loads(due(5, loaded("a", 4, 2, 1, "work 4")))
	wantRun(t, "of one task", own, come(0, 0, 0, 2, 0, 4), 12, "0 come 0 0, 0 run 0 0, 2 come 0 1, 4 done 0 0, 4 come 0 2, 4 run 0 1, 7 late 0 1, 8 done 0 1, 8 run 0 2, 9 late 0 2, 12 done 0 2")
}

// TestRunUntil: what happens at until, and what doesn't any more.
func TestRunUntil(t *testing.T) {
	l := loads(loaded("a", 3, 5, 1, "work 3"))
	all := "0 come 0 0, 0 run 0 0, 3 done 0 0, 5 come 0 1, 5 run 0 1, 8 done 0 1"
	c := come(0, 0, 0, 5, 0, 30)
	wantRun(t, "0", l, c, 0, "")
	wantRun(t, "1", l, c, 1, "0 come 0 0, 0 run 0 0")
	wantRun(t, "in the midst", l, c, 2, "0 come 0 0, 0 run 0 0")
	wantRun(t, "at its end", l, c, 3, "0 come 0 0, 0 run 0 0, 3 done 0 0")
	wantRun(t, "behind its end", l, c, 4, "0 come 0 0, 0 run 0 0, 3 done 0 0")
	wantRun(t, "as one comes", l, c, 5, "0 come 0 0, 0 run 0 0, 3 done 0 0")
	wantRun(t, "behind that", l, c, 6, "0 come 0 0, 0 run 0 0, 3 done 0 0, 5 come 0 1, 5 run 0 1")
	wantRun(t, "far behind", l, c, 20, all)
	wantRun(t, "as far as may be", l, c, api.MaxUntil, all+", 30 come 0 2, 30 run 0 2, 33 done 0 2")
	wantRun(t, "the last tick", l, come(0, api.MaxUntil-3), api.MaxUntil, "19997 come 0 0, 19997 run 0 0, 20000 done 0 0")
	wantRun(t, "behind the last tick", l, come(0, api.MaxUntil), api.MaxUntil, "")
	wantRun(t, "due at the last time", loads(due(5, loaded("a", 5, 5, 1, "work 9")), loaded("b", 9, 9, 2, "work 9")), come(0, api.MaxUntil-5, 1, api.MaxUntil-5), api.MaxUntil,
		"19995 come 0 0, 19995 come 1 1, 19995 run 1 1, 20000 late 0 0")
}

// TestRunOrder: all kinds at one time.
func TestRunOrder(t *testing.T) {
	l := loads(loaded("a", 5, 20, 2, "work 2, push 6, out 3"), due(4, loaded("b", 2, 20, 1, "work 2")), loaded("c", 1, 20, 9, ""), loaded("d", 1, 20, 3, "work 1"))
	wantRun(t, "done", l, come(0, 0, 1, 1, 3, 5, 2, 5), 9,
		"0 come 0 0, 0 run 0 0, 1 come 1 1, 5 put 0 3 6, 5 done 0 0, 5 late 1 1, 5 come 3 2, 5 come 2 3, 5 done 2 3, 5 run 3 2, 6 done 3 2, 6 run 1 1, 8 done 1 1")
	l[0].Image = append(l[0].Image, image("work 1")...)
	wantRun(t, "killed", l, come(0, 0, 1, 1, 3, 5, 2, 5), 5,
		"0 come 0 0, 0 run 0 0, 1 come 1 1, 5 put 0 3 6, 5 kill 0 0, 5 late 1 1")
}

// TestRunRanges: both ends of each range, and what is told first.
func TestRunRanges(t *testing.T) {
	l := several(3)
	four := make([]int, 4)
	for _, n := range []int{0, 1, 3, 5, 8} {
		wantNoRun(t, fmt.Sprint(n, " inputs"), l, nil, make([]int, n), 9, fault(api.ErrRange, 0))
	}
	for _, until := range []int{-1, api.MaxUntil + 1, math.MinInt, math.MaxInt} {
		wantNoRun(t, fmt.Sprint("until ", until), l, nil, four, until, fault(api.ErrRange, 0))
		wantNoRun(t, fmt.Sprint("until ", until), l, come(0, 0, 1, 3), nil, until, fault(api.ErrRange, 0))
	}
	for _, until := range []int{0, 1, api.MaxUntil} {
		wantRun(t, fmt.Sprint("until ", until), l, nil, until, "")
	}
	for _, c := range []struct {
		what  string
		comes []api.Come
		want  api.Fault
	}{
		{"no such task", come(0, 0, 3, 1), fault(api.ErrName, 1)},
		{"a task below 0", come(0, 0, 1, 1, -1, 3), fault(api.ErrName, 2)},
		{"ahead of 0", come(0, -1), fault(api.ErrRange, 0)},
		{"too late", come(0, 0, 0, api.MaxUntil+1), fault(api.ErrRange, 1)},
		{"not in order", come(0, 5, 1, 4), fault(api.ErrOrder, 1)},
		{"too soon", come(0, 5, 1, 9, 0, 504), fault(api.ErrOrder, 2)},
		{"a task that isn't there, at a time that may not be", come(9, -9), fault(api.ErrName, 0)},
	} {
		wantNoRun(t, c.what, l, c.comes, four, 9, c.want)
		wantNoRun(t, c.what+", and too few inputs", l, c.comes, nil, 9, c.want)
		wantNoRun(t, c.what+", and until", l, c.comes, four, -1, c.want)
	}
	wantRun(t, "just as soon as it may", l, come(0, 5, 0, 505), 6, "5 come 0 0, 5 run 0 0")
}

// many are tasks of which as many come as may, all at the beginning, and how they come.
func many(c int, text string) ([]api.Loaded, []api.Come) {
	var l []api.Loaded
	var comes []api.Come
	for i := range api.MaxTasks {
		one := loaded(string(rune('a'+i)), c, 1, i%3, text)
		one.Task.D = api.MaxTime
		l = append(l, one)
	}
	for i := range api.MaxJobs {
		comes = append(comes, api.Come{Task: i % len(l), At: i / len(l)})
	}
	return l, comes
}

// TestRunMany: as many as may be, and one more.
func TestRunMany(t *testing.T) {
	l, comes := many(5, "work 3, push 1, out 2")
	wantNoRun(t, "one more", l, append(slices.Clip(comes), api.Come{At: 600}), nil, 9, fault(api.ErrMany, 0))
	wantNoRun(t, "one more, and wrong ones", l, append(slices.Clip(comes), api.Come{Task: 99}), make([]int, 4), 9, fault(api.ErrMany, 0))
	log, f := kernel.Run(l, comes, make([]int, 4), api.MaxUntil)
	if f != (api.Fault{}) {
		t.Fatal(f)
	}
	told := map[int]int{}
	for _, e := range log {
		told[e.Kind]++
	}
	// Each has five ticks of six.
	if told[api.EvCome] != 4000 || told[api.EvRun] < 4000 || told[api.EvDone] != 0 || told[api.EvKill] != 4000 || told[api.EvPut] != 0 || told[api.EvLate] < 1000 {
		t.Errorf("%v", told)
	}
	if last := log[len(log)-1]; last.At != api.MaxUntil || last.Kind != api.EvKill || last.N != api.MaxJobs-2 {
		t.Errorf("%v", last)
	}
	if back, f := kernel.Parse(kernel.Print(log)); f != (api.Fault{}) || !slices.Equal(back, log) {
		t.Errorf("there and back: %v", f)
	}
}

// TestRunLong: images as long as may be, many times, and much that goes out.
func TestRunLong(t *testing.T) {
	l, comes := many(5, "work 1")
	for i := range l {
		l[i].Image = slices.Repeat(image("push 1, out 2"), api.MaxIns/2)
	}
	log, f := kernel.Run(l, comes, make([]int, 4), api.MaxUntil)
	if f != (api.Fault{}) || len(log) < 4*api.MaxJobs {
		t.Errorf("%d events, %v", len(log), f)
	}
	one := loads(loaded("a", api.MaxTime, api.MaxTime, 0, ""))
	one[0].Image = slices.Concat(image("count 0 100"), slices.Repeat(image("push 3, out 1"), 990), image("again 0 1"))
	log, f = kernel.Run(one, come(0, 0, 0, 10000), make([]int, 4), api.MaxUntil)
	n := 0
	for _, e := range log {
		if e.Kind == api.EvPut && e.M == 1 && e.N == 3 {
			n++
		}
	}
	if f != (api.Fault{}) || n != 2*3331 || log[len(log)-1].Kind != api.EvKill {
		t.Errorf("%d went out, %v", n, f)
	}
}

// TestRunMade: what happens of made tasks is what the rules say word by word.
func TestRunMade(t *testing.T) {
	m := newMaker(2)
	var all seen
	for range 6000 {
		l := m.tasks(m.within(1, m.one(2, 4, 8)), m.one(10, 40, 150), m.Intn(2) == 0).l
		until := m.one(0, m.Intn(20), 60, 150)
		comes, in := m.comes(l, until+m.Intn(3)), m.numbers(4)
		o := newOther(l, comes, in)
		o.run(until)
		all.add(o.seen)
		log, f := kernel.Run(l, comes, in, until)
		if f != (api.Fault{}) || !slices.Equal(log, o.log) {
			t.Fatalf("Run: %v\n%swant\n%s(%v %v %v, until %d)", f, written(log), written(o.log), l, comes, in, until)
		}
		if ok, f := kernel.Replays(l, comes, in, until, o.log); f != (api.Fault{}) || !ok {
			t.Fatalf("Replays: %v %v", ok, f)
		}
		if text := kernel.Print(log); text != written(log) {
			t.Fatalf("Print: %q, want %q", text, written(log))
		}
	}
	if all.raised < 1000 || all.stops < 2000 || all.empty < 2000 || all.kills < 2000 || all.locked < 200 || all.late < 2000 || all.puts < 2000 {
		t.Errorf("too little was seen: %+v", all)
	}
}

// TestRunShort: of all short images of two tasks, however they come within some ticks.
func TestRunShort(t *testing.T) {
	texts := []string{"", "work 1", "work 2", "lock 0, unlock 0", "lock 0, work 1, unlock 0", "work 1, lock 0, unlock 0", "push 1, out 1", "lock 0, unlock 0, work 1"}
	var all seen
	eachComing(2, 4, func(comes []api.Come) {
		for _, a := range texts {
			for _, b := range texts {
				for c := 1; c <= 3; c++ {
					l := loads(due(4, loaded("a", c, 1, 1, a)), due(3, loaded("b", 3, 1, 2, b)))
					o := newOther(l, comes, make([]int, 4))
					o.run(8)
					all.add(o.seen)
					log, f := kernel.Run(l, comes, make([]int, 4), 8)
					if f != (api.Fault{}) || !slices.Equal(log, o.log) {
						t.Fatalf("Run: %v\n%swant\n%s(%v %v)", f, written(log), written(o.log), l, comes)
					}
				}
			}
		}
	})
	if all.raised < 1000 || all.stops < 1000 || all.empty < 1000 || all.kills < 1000 || all.locked < 1000 || all.late < 1000 || all.puts < 1000 {
		t.Errorf("too little was seen: %+v", all)
	}
}

// eachComing goes through all ways in which n tasks can come, or not, at each of the first times, at one time in both orders.
func eachComing(n, times int, see func(comes []api.Come)) {
	var from func(now int, l []api.Come)
	from = func(now int, l []api.Come) {
		if now == times {
			see(l)
			return
		}
		for _, order := range orders(n) {
			next := slices.Clip(l)
			for _, i := range order {
				next = append(next, api.Come{Task: i, At: now})
			}
			from(now+1, next)
		}
	}
	from(0, nil)
}

// orders are all lists of some of the first n numbers, each of them at most once.
func orders(n int) [][]int {
	all := [][]int{nil}
	for at := 0; at < len(all); at++ {
		for i := range n {
			if !slices.Contains(all[at], i) {
				all = append(all, append(slices.Clip(all[at]), i))
			}
		}
	}
	return all
}
