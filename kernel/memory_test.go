package kernel_test

import (
	"fmt"
	"math"
	"slices"
	"testing"

	"punctual/api"
	"punctual/kernel"
)

// roomy is a copy of a list that has spare room behind it, and all of that.
func roomy[T any](l []T, spare T) (list, whole []T) {
	whole = append(slices.Clone(l), spare, spare, spare)
	return whole[:len(l)], whole
}

// TestMemory: what is handed in isn't changed, neither what is behind it, and isn't kept; what is answered is new.
func TestMemory(t *testing.T) {
	l, allLoaded := roomy(loads(loaded("a", 9, 20, 2, "lock 0, work 1, unlock 0, in 1, out 2"), loaded("b", 8, 30, 1, "lock 0, work 3, unlock 0, push 5, out 2")), api.Loaded{Task: api.Task{Name: "z"}})
	var allImages [][]api.Ins
	for i := range l {
		var whole []api.Ins
		l[i].Image, whole = roomy(l[i].Image, api.Ins{Op: 99})
		allImages = append(allImages, whole)
	}
	comes, allComes := roomy(come(1, 0, 0, 2, 0, 22), api.Come{Task: 77})
	in, allIn := roomy(ints(1, 2, 3, 4), 55)
	log, allLog := roomy(events("0 come 0 0, 0 run 0 0, 3 put 0 1 -4, 3 done 0 0"), api.Event{Kind: 66})
	handed := func() string { return fmt.Sprint(allLoaded, allImages, allComes, allIn, allLog) }
	before := handed()
	var first string
	for i := range 3 {
		times, f := kernel.Admit(l)
		told, g := kernel.Run(l, comes, in, 40)
		back, h := kernel.Parse(kernel.Print(log))
		ok, j := kernel.Replays(l, comes, in, 40, told)
		if kernel.Check(l) != (api.Fault{}) || f != (api.Fault{}) || g != f || h != f || j != f || !ok {
			t.Fatal(f, g, h, j, ok)
		}
		answer := fmt.Sprint(times, told, back, kernel.Print(told))
		if i == 0 {
			first = answer
		}
		if answer != first || handed() != before {
			t.Fatalf("%s, want %s; %s, want %s", answer, first, handed(), before)
		}
		for _, l := range [][]int{times, times[:cap(times)]} {
			clear(l)
		}
		clear(told[:cap(told)])
		clear(back[:cap(back)])
	}
	times, _ := kernel.Admit(l)
	told, _ := kernel.Run(l, comes, in, 40)
	back, _ := kernel.Parse(kernel.Print(log))
	text := kernel.Print(told)
	for _, whole := range allImages {
		clear(whole)
	}
	clear(allLoaded)
	clear(allComes)
	clear(allIn)
	clear(allLog)
	if answer := fmt.Sprint(times, told, back, text); answer != first {
		t.Errorf("%s, want %s", answer, first)
	}
}

// TestTwoRuns: what is answered doesn't hang on calls ahead of it.
func TestTwoRuns(t *testing.T) {
	m := newMaker(7)
	for range 200 {
		a, b := m.tasks(m.within(1, 8), 50, true).l, m.tasks(m.within(1, 8), 50, true).l
		comes, in := m.comes(a, 60), m.numbers(4)
		others := m.comes(b, 60)
		first, f := kernel.Run(a, comes, in, 60)
		was := slices.Clone(first)
		kernel.Run(b, others, m.numbers(4), 60)
		again, g := kernel.Run(a, comes, in, 60)
		if f != g || !slices.Equal(first, was) || !slices.Equal(first, again) {
			t.Fatalf("%v %v: %v, then %v", f, g, was, again)
		}
	}
}

// TestAnything: no call panics, and every call ends, whatever it is given; with a fault there is nothing beside it.
func TestAnything(t *testing.T) {
	m := newMaker(8)
	wild := func() int {
		return m.one(0, 1, 2, 3, 9, -1, api.MaxTime, api.MaxUntil, api.MaxUntil+1, math.MinInt, math.MaxInt, int(m.Uint64()))
	}
	seldom := func(n *int) {
		if m.Intn(40) == 0 {
			*n = wild()
		}
	}
	right, wrong := 0, 0
	for range 20000 {
		x := m.tasks(m.one(1, 2, 3, 8, 9), m.one(10, 50, 200), m.Intn(2) == 0)
		for i := range x.l {
			one := &x.l[i].Task
			for _, n := range []*int{&one.C, &one.T, &one.D, &one.J, &one.O, &one.P} {
				seldom(n)
			}
			for k := range x.l[i].Image {
				if m.Intn(200) == 0 {
					x.l[i].Image[k] = api.Ins{Op: m.Intn(20), A: wild(), B: wild()}
				}
			}
		}
		var comes []api.Come
		at := 0
		for range m.Intn(5) {
			at += m.Intn(40)
			c := api.Come{Task: m.Intn(len(x.l)), At: at}
			seldom(&c.Task)
			seldom(&c.At)
			comes = append(comes, c)
		}
		in, until := m.numbers(m.one(4, 4, 4, 4, 4, 4, 0, 3, 5)), m.one(30, 30, 30, 30, wild())
		log, f := kernel.Run(x.l, comes, in, until)
		if f.Code == api.OK {
			right++
		} else if wrong++; log != nil {
			t.Fatalf("%v %v", log, f)
		}
		if text := kernel.Print(log); (text == "") != (len(log) == 0) {
			t.Fatalf("Print: %q of %v", text, log)
		}
		if times, f := kernel.Admit(x.l); (f.Code == api.OK) != (len(times) == len(x.l)) || f.Code != api.OK && times != nil {
			t.Fatalf("%v %v", times, f)
		}
		if ok, g := kernel.Replays(x.l, comes, in, until, log); g != f || ok != (f.Code == api.OK) {
			t.Fatalf("%v %v, want %v", ok, g, f)
		}
		strange := []api.Event{{At: wild(), Kind: wild(), Task: wild(), M: wild(), N: wild()}}
		if text := kernel.Print(strange); text != "" {
			wantText(t, strange, text)
		}
	}
	if right < 2000 || wrong < 2000 {
		t.Errorf("%d right, %d wrong", right, wrong)
	}
}
