package wcet_test

import (
	"slices"
	"testing"

	"punctual/api"
	"punctual/compile"
	"punctual/mach"
	"punctual/tongue"
	"punctual/wcet"
)

// wantLongest: is what is told of an image what the longest ways through it take?
func wantLongest(t *testing.T, image []api.Ins) {
	t.Helper()
	b := analysed(t, image)
	if want := longest(image, 0); b.Worst != want {
		t.Fatalf("%v: %d, want %d", image, b.Worst, want)
	}
	held := make([]int, 4)
	for at, x := range image {
		if want := longest(image, at); b.Rest[at] != want {
			t.Fatalf("%v: from %d on %d, want %d", image, at, b.Rest[at], want)
		}
		if x.Op == api.ILock {
			held[x.A] = max(held[x.A], longest(image, at+1))
		}
	}
	if got, f := wcet.Held(image); f != (api.Fault{}) || !slices.Equal(got, held) {
		t.Fatalf("%v: %v %v, want %v", image, got, f, held)
	}
	if !wcet.Proves(image, b) {
		t.Fatalf("%v: %v isn't proved", image, b)
	}
}

// TestLongestWay: what is told is what the longest way takes, of which a walk through all ways knows.
func TestLongestWay(t *testing.T) {
	seen := map[int]int{}
	for seed := range int64(1500) {
		image := made(seed, 1+int(seed%25), 4, false).image
		wantLongest(t, image)
		for _, x := range image {
			seen[x.Op]++
		}
	}
	for op := api.IPush; op <= api.IWork; op++ {
		if seen[op] < 300 {
			t.Errorf("only %d instructions are %d", seen[op], op)
		}
	}
}

// TestShort: all short images, and whatever goes in.
func TestShort(t *testing.T) {
	n := 0
	short(5, func(image []api.Ins) {
		n++
		wantLongest(t, image)
		for in := range 2 {
			wantInTime(t, image, make([]int, 8), []int{in, 0, 0, 0})
		}
	})
	if n < 500 {
		t.Errorf("only %d images", n)
	}
}

// wantInTime: does a run take no longer than the worst time, and just so long if it has no choice? Its ticks; 0 if it has too many steps.
func wantInTime(t *testing.T, image []api.Ins, vars, in []int) int {
	t.Helper()
	worst := analysed(t, image).Worst
	e, f := mach.Run(image, vars, in)
	if f.Code == api.ErrSteps {
		return 0
	}
	if f != (api.Fault{}) || e.Steps > worst {
		t.Fatalf("%v %v %v: %v %v, above %d", image, vars, in, e, f, worst)
	}
	free := slices.ContainsFunc(image, func(x api.Ins) bool { return x.Op == api.ISkip || x.Op == api.IStop })
	if !free && e.Steps != worst {
		t.Fatalf("%v: %d ticks, not %d", image, e.Steps, worst)
	}
	return e.Steps
}

// TestNeverLonger: made images, with all kinds of variables and inputs.
func TestNeverLonger(t *testing.T) {
	done, just := 0, 0
	for seed := range int64(3000) {
		m := made(seed, 1+int(seed%30), []int{3, 12, 60}[seed%3], false)
		for range 4 {
			ticks := wantInTime(t, m.image, m.numbers(8), m.numbers(4))
			if ticks > 0 {
				done++
			}
			if ticks == analysed(t, m.image).Worst {
				just++
			}
		}
	}
	if done < 8000 || just < 800 || just > done-800 {
		t.Errorf("%d were done, %d in just the worst time: too few to tell", done, just)
	}
}

// TestJustSoLong: made images that have no choice.
func TestJustSoLong(t *testing.T) {
	done := 0
	for seed := range int64(3000) {
		m := made(seed, 1+int(seed%30), []int{3, 12, 60}[seed%3], true)
		if wantInTime(t, m.image, m.numbers(8), m.numbers(4)) > 0 {
			done++
		}
	}
	if done < 2000 {
		t.Errorf("only %d were done", done)
	}
}

// TestBodies: images of bodies, whose loops end early or don't.
func TestBodies(t *testing.T) {
	for _, text := range []string{
		"upto 20 while a < in 0 { a = a + 1; work 3; } work 1;",
		"repeat 4 { b = b + 1; upto 9 while b + 20 >= in 0 { b = b - 1; if b == in 2 { out 0 = b * b; } else { lock 1 { work 4; } } } }",
		"lock 0 { if in 0 != 2 { repeat 7 { lock 2 { c = c + in 3; } } } } out 3 = -c;",
		"upto 3 while a < in 0 { upto 3 while b < in 1 { b = b + 1; } a = a + 1; b = -1; }",
	} {
		body, _ := tongue.Parse(text)
		image, f := compile.Image(body)
		if f != (api.Fault{}) || len(image) == 0 {
			t.Fatalf("%s: %v", text, f)
		}
		worst, seen := analysed(t, image).Worst, 0
		for n := range 6 * 6 * 6 {
			seen = max(seen, wantInTime(t, image, make([]int, 8), []int{n%6*5 - 2, n/6%6 - 2, n/36 - 1, 1}))
		}
		if seen < worst/2 {
			t.Errorf("%s: never more than %d ticks, of %d", text, seen, worst)
		}
	}
}

// roomy is a bound that allows a little more here and there than the rules ask for.
func (m *maker) roomy() api.Bound {
	rest := make([]int, len(m.image))
	for at := len(rest) - 1; at >= 0; at-- {
		rest[at] = int(needed(m.image, rest, at).Int64()) + max(0, m.Intn(8)-5)
	}
	return api.Bound{Worst: rest[0] + max(0, m.Intn(8)-5), Rest: rest}
}

// spoilt is a bound that was changed in one place or two.
func (m *maker) spoilt(b api.Bound) api.Bound {
	b.Rest = slices.Clone(b.Rest)
	for range 1 + m.Intn(2) {
		at := m.Intn(len(b.Rest))
		switch m.Intn(8) {
		case 0:
			b.Worst += m.Intn(5) - 2
		case 1:
			b.Rest[at] = []int{-1, 0, most, most + 1, int(m.Uint64())}[m.Intn(5)]
		default:
			b.Rest[at] += m.Intn(5) - 2
		}
	}
	return b
}

// TestProvesNothingLess: of all kinds of numbers Proves takes those that the rules allow, and none with a lesser Worst.
func TestProvesNothingLess(t *testing.T) {
	taken, refused := 0, 0
	for seed := range int64(2000) {
		m := made(seed, 1+int(seed%15), 4, false)
		if len(m.image) == 0 {
			continue
		}
		least := analysed(t, m.image)
		for _, b := range []api.Bound{least, m.roomy(), m.spoilt(least), m.spoilt(m.roomy()), m.spoilt(m.roomy())} {
			got := wcet.Proves(m.image, b)
			if got != otherProves(m.image, b) {
				t.Fatalf("%v %v: %v", m.image, b, got)
			}
			if !got {
				refused++
				continue
			}
			taken++
			for at, n := range b.Rest {
				if n < least.Rest[at] || b.Worst < least.Worst {
					t.Fatalf("%v: %v is proved, less than %v", m.image, b, least)
				}
			}
		}
	}
	if taken < 3000 || refused < 3000 {
		t.Errorf("%d are taken, %d refused: too few to tell", taken, refused)
	}
}

// TestMemory: what is handed in is only read, with the spare room behind it; what is answered is new each time.
func TestMemory(t *testing.T) {
	for seed := range int64(300) {
		image := append(made(seed, 1+int(seed%20), 5, false).image, work(77), lock(1), unlock(1))
		was := slices.Clone(image)
		l := image[:len(image)-3]
		b := analysed(t, l)
		held, _ := wcet.Held(l)
		room := append(slices.Clone(b.Rest), 7, 8)
		if !wcet.Proves(l, api.Bound{Worst: b.Worst, Rest: room[:len(l)]}) || room[len(l)] != 7 || room[len(l)+1] != 8 {
			t.Fatalf("seed %d: %v", seed, room)
		}
		want, wantHeld := slices.Clone(b.Rest), slices.Clone(held)
		again := analysed(t, l)
		heldAgain, _ := wcet.Held(l)
		clear(again.Rest[:cap(again.Rest)])
		clear(heldAgain[:cap(heldAgain)])
		if !slices.Equal(b.Rest, want) || !slices.Equal(held, wantHeld) {
			t.Fatalf("seed %d: two answers share memory", seed)
		}
		if next := analysed(t, l); !slices.Equal(next.Rest, want) {
			t.Fatalf("seed %d: an answer hangs on what was done to another", seed)
		}
		if !slices.Equal(image, was) {
			t.Fatalf("seed %d: the image was changed", seed)
		}
	}
}
