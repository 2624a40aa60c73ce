package wcet_test

import (
	"fmt"
	"math"
	"slices"
	"testing"

	"punctual/api"
	"punctual/compile"
	"punctual/mach"
	"punctual/tongue"
	"punctual/wcet"
)

// TestRules: what is left from each instruction on, reckoned by hand.
func TestRules(t *testing.T) {
	for _, x := range []struct {
		text string
		rest []int
	}{
		// Instructions that go on with the next one.
		{"work 1", []int{1}},
		{"work 1000", []int{1000}},
		{"push 5, store 0", []int{2, 1}},
		{"load 5, store 0", []int{2, 1}},
		{"in 0, store 0", []int{3, 1}},
		{"load 0, out 3", []int{3, 2}},
		{"in 0, out 3", []int{4, 2}},
		{"load 0, load 1, add, store 0", []int{4, 3, 2, 1}},
		{"load 0, load 1, sub, store 0", []int{4, 3, 2, 1}},
		{"load 0, load 1, mul, store 0", []int{6, 5, 4, 1}},
		{"load 0, load 1, less, store 0", []int{4, 3, 2, 1}},
		{"load 0, load 1, same, store 0", []int{4, 3, 2, 1}},
		{"work 3, work 4, work 5", []int{12, 9, 5}},
		// IJump.
		{"jump 1", []int{2}},
		{"jump 1, work 5", []int{7, 5}},
		{"work 5, jump 2", []int{7, 2}},
		{"jump 1, jump 2, jump 3", []int{6, 4, 2}},
		// ISkip: behind the last one, to the next one, over something short and over something long.
		{"load 0, skip 2", []int{3, 2}},
		{"load 0, skip 2, work 5", []int{8, 7, 5}},
		{"load 0, skip 3, work 1", []int{3, 2, 1}},
		{"load 0, skip 3, work 2", []int{4, 3, 2}},
		{"load 0, skip 3, work 1, work 10", []int{13, 12, 11, 10}},
		{"load 0, skip 3, work 2, work 10", []int{14, 13, 12, 10}},
		// With an IJump: the longer one of two, whichever it is.
		{"load 0, skip 4, work 9, jump 5, work 3", []int{13, 12, 11, 2, 3}},
		{"load 0, skip 4, work 3, jump 5, work 9", []int{12, 11, 5, 2, 9}},
		{"load 0, skip 4, work 3, jump 6, work 9, work 1, work 50", []int{63, 62, 55, 52, 60, 51, 50}},
		{"load 0, skip 4, load 1, jump 5, in 0, out 0", []int{7, 6, 5, 4, 4, 2}},
		// Loops: none, once, often; what stands behind them.
		{"count 0 0, again 0 1", []int{2, 0}},
		{"count 7 1, again 7 1", []int{4, 0}},
		{"count 0 1000, again 0 1", []int{2002, 0}},
		{"count 0 0, work 5, again 0 1", []int{7, 5, 0}},
		{"count 0 1, work 5, again 0 1", []int{14, 5, 0}},
		{"count 0 1000, work 5, again 0 1", []int{2002 + 5005, 5, 0}},
		{"count 0 2, work 5, work 6, again 0 1 | work 100", []int{1 + 3*11 + 5 + 100, 11, 6, 0, 100}},
		{"work 100 | count 0 2, again 0 2 | work 10", []int{116, 16, 0, 10}},
		{"count 0 3, jump 2, again 0 1", []int{1 + 4*2 + 7, 2, 0}},
		{"count 0 3, jump 2, work 1, again 0 1", []int{1 + 4*3 + 7, 3, 1, 0}},
		{"count 0 3, load 0, skip 4, work 9, again 0 1", []int{1 + 4*11 + 7, 11, 10, 9, 0}},
		{"load 0 | count 0 3, load 1, add, again 0 2 | store 1", []int{18, 17, 2, 1, 0, 1}},
		// An IStop is taken as if it did nothing but take its tick.
		{"count 0 2, stop 0, again 0 1", []int{9, 1, 0}},
		{"count 0 2, work 4, stop 0, work 5, again 0 1 | work 1", []int{1 + 3*10 + 5 + 1, 10, 6, 5, 0, 1}},
		{"count 0 2, load 0, skip 5, work 7, jump 6, stop 0, again 0 1", []int{1 + 3*11 + 5, 11, 10, 9, 2, 1, 0}},
		{"count 0 2, load 0, skip 4, jump 5, stop 0, again 0 1", []int{1 + 3*4 + 5, 4, 3, 2, 1, 0}},
		// Locks.
		{"lock 0, unlock 0", []int{2, 1}},
		{"lock 3, work 5, unlock 3", []int{7, 6, 1}},
		{"lock 0, work 5, unlock 0 | work 9", []int{16, 6, 1, 9}},
		{"lock 0, jump 2, unlock 0", []int{4, 3, 1}},
		{"lock 0, load 0, skip 4, work 2, unlock 0", []int{6, 5, 4, 3, 1}},
		{"lock 1, unlock 1 | lock 1, work 3, unlock 1", []int{7, 1, 5, 4, 1}},
		// Regions within regions.
		{"lock 0, lock 1, unlock 1, unlock 0", []int{4, 3, 1, 1}},
		{"lock 0, work 3, lock 1, work 4, unlock 1, work 5, unlock 0 | work 6", []int{1 + 15 + 6, 15, 12, 5, 1, 6, 1, 6}},
		{"count 0 1, count 1 2, work 3, again 1 2, again 0 1", []int{1 + 2*15 + 3, 15, 3, 0, 0}},
		{"count 0 1, work 7, count 1 2, work 3, again 1 3, work 8, again 0 1 | work 9", []int{1 + 2*30 + 3 + 9, 30, 23, 3, 0, 8, 0, 9}},
		{"count 0 1, count 1 0, again 1 2, count 1 0, again 1 4, again 0 1", []int{1 + 2*4 + 3, 4, 0, 2, 0, 0}},
		{"count 0 4, lock 0, work 2, unlock 0, again 0 1", []int{1 + 5*4 + 9, 4, 3, 1, 0}},
		{"lock 0, count 0 4, work 2, again 0 2, unlock 0", []int{1 + 21, 1 + 10 + 9 + 1, 2, 0, 1}},
		{"count 0 0, again 0 1 | lock 0, unlock 0 | count 0 0, again 0 5", []int{6, 0, 4, 1, 2, 0}},
		{"count 0 1, count 1 1, stop 0, again 1 2, again 0 1", []int{1 + 2*6 + 3, 6, 1, 0, 0}},
		// Over and around regions.
		{"load 0, skip 4, lock 0, unlock 0, work 1", []int{5, 4, 3, 1, 1}},
		{"load 0, skip 4, count 0 0, again 0 3", []int{4, 3, 2, 0}},
		{"load 0, skip 6, count 0 9, work 9, again 0 3, jump 7, work 500", []int{503, 502, 1 + 10*9 + 19 + 2, 9, 0, 2, 500}},
		{"count 0 1, load 0, skip 6, lock 2, work 30, unlock 2, again 0 1", []int{1 + 2*34 + 3, 34, 33, 32, 31, 1, 0}},
	} {
		image := instructions(t, x.text)
		b := analysed(t, image)
		if !slices.Equal(b.Rest, x.rest) || b.Worst != x.rest[0] {
			t.Errorf("%s: %v, want %v", x.text, b, x.rest)
		}
		wantJust(t, x.text, image, x.rest)
	}
}

// wantJust: is that proved, and nothing that is less anywhere?
func wantJust(t *testing.T, what string, image []api.Ins, rest []int) {
	t.Helper()
	wantProves(t, what, image, rest[0], rest, true)
	wantProves(t, what, image, rest[0]+1, rest, true)
	wantProves(t, what, image, rest[0]-1, rest, false)
	wantProves(t, what, image, rest[0]+1, with(rest, 0, rest[0]+1), true)
	wantProves(t, what, image, rest[0], with(rest, 0, rest[0]+1), false)
	for at, n := range rest {
		wantProves(t, what, image, most, with(rest, at, n-1), false)
		wantProves(t, what, image, most, with(rest, at, 0), n == 0)
	}
}

// TestExamples are those of the document and of its bodies.
func TestExamples(t *testing.T) {
	for _, x := range []struct {
		text  string
		worst int
	}{
		{"repeat 3 { a = a + in 0; } out 1 = a * 2;", 28},
		{"", 0},
		{"repeat 0 { work 100; }", 0},
		{"work 100;", 100},
		{"if a < 1 { work 9; } else { work 8; }", 3 + 1 + 9 + 2},
		{"if a < 1 { work 8; } else { work 9; }", 3 + 1 + 8 + 2},
		{"if a < 1 { work 8; } else { work 10; }", 3 + 2 + 10},
		{"upto 3 while a < 1 { work 9; }", 1 + 3*(3+1+9+2) + 5},
		{"lock 1 { work 9; } lock 1 { repeat 2 { work 20; } }", 11 + 1 + (1 + 40 + 3) + 1},
	} {
		body, f := tongue.Parse(x.text)
		image, g := compile.Image(body)
		if f != (api.Fault{}) || g != (api.Fault{}) {
			t.Fatalf("%s: %v %v", x.text, f, g)
		}
		if b := analysed(t, image); b.Worst != x.worst {
			t.Errorf("%s: %v, want %d", x.text, b, x.worst)
		}
	}
}

// TestNoInstructions: nothing is left, which is proved by no numbers.
func TestNoInstructions(t *testing.T) {
	for _, none := range [][]api.Ins{nil, {}, make([]api.Ins, 0, 5)} {
		if b := analysed(t, none); b.Worst != 0 {
			t.Errorf("%v", b)
		}
		if held, f := wcet.Held(none); f != (api.Fault{}) || !slices.Equal(held, []int{0, 0, 0, 0}) {
			t.Errorf("%v %v", held, f)
		}
		for _, rest := range [][]int{nil, {}, make([]int, 0, 5)} {
			wantProves(t, "nothing", none, 0, rest, true)
			wantProves(t, "more", none, 1, rest, true)
			wantProves(t, "most", none, math.MaxInt, rest, true)
			wantProves(t, "less", none, -1, rest, false)
			wantProves(t, "least", none, math.MinInt, rest, false)
		}
		wantProves(t, "too long", none, 5, []int{0}, false)
	}
}

// TestRange: at 2^40, and above it. The last instruction of which it is too much is told.
func TestRange(t *testing.T) {
	around := func(first []api.Ins, n int, last ...api.Ins) []api.Ins {
		return slices.Concat(first, lasting(n, len(first), 1), last)
	}
	elsewhere := func(n int) []api.Ins {
		behind := 3 + len(lasting(n, 3, 1))
		return around([]api.Ins{input(0), skip(3), jump(behind)}, n, work(1))
	}
	long := len(lasting(most, 0, 1))
	for _, x := range []struct {
		what  string
		image []api.Ins
		over  int // the number that is told; -1: none
	}{
		{"just so much", around(nil, most), -1},
		{"one more", around(nil, most+1), 0},
		{"a little ahead", around([]api.Ins{work(5)}, most-5), -1},
		{"a little more ahead", around([]api.Ins{work(5)}, most-4), 0},
		{"the second one", around([]api.Ins{work(1), work(1), work(1)}, most-1), 1},
		{"the last one", around([]api.Ins{work(1), work(1), work(1)}, most), 2},
		{"behind", around(nil, most, work(1)), 0},
		{"jumped to", around([]api.Ins{jump(1)}, most-2), -1},
		{"jumped to, more", around([]api.Ins{jump(1)}, most-1), 0},
		{"skipped to", around([]api.Ins{input(0), skip(2)}, most-4), -1},
		{"skipped to, more", around([]api.Ins{input(0), skip(2)}, most-3), 0},
		{"skipped to, still more", around([]api.Ins{input(0), skip(2)}, most-1), 1},
		{"elsewhere", elsewhere(most - 5), -1},
		{"elsewhere, more", elsewhere(most - 4), 0},
		{"elsewhere, still more", elsewhere(most - 2), 1},
		{"elsewhere, too much there", elsewhere(most), 3},
		{"in a lock", around([]api.Ins{lock(0)}, most-2, unlock(0)), -1},
		{"in a lock, more", around([]api.Ins{lock(0)}, most-1, unlock(0)), 0},
		{"in a lock, still more", around([]api.Ins{lock(0)}, most, unlock(0)), 1},
		{"behind a lock", around([]api.Ins{lock(0), unlock(0)}, most-1), 0},
		{"in a loop of once", around([]api.Ins{count(0, 0)}, most-2, again(0, 1)), -1},
		{"in a loop of once, more", around([]api.Ins{count(0, 0)}, most-1, again(0, 1)), 0},
		{"in a loop, just so much", around([]api.Ins{count(0, 1)}, most/2-2, again(0, 1)), -1},
		{"in a loop", around([]api.Ins{count(0, 1)}, most/2-1, again(0, 1)), 0},
		{"in a long loop", around([]api.Ins{count(0, 1000)}, most, again(0, 1)), 0},
		{"too much in a loop", around([]api.Ins{count(0, 1000)}, most+1, again(0, 1)), 1},
		{"behind a loop", around([]api.Ins{count(0, 0), again(0, 1)}, most-2), -1},
		{"behind a loop, more", around([]api.Ins{count(0, 0), again(0, 1)}, most-1), 0},
		{"too much twice", around(around(nil, most+1), 5), 0},
		{"the later one", slices.Concat(lasting(most, 0, 1), lasting(most+1, long, 1)), long},
	} {
		if x.over >= 0 {
			wantNothing(t, x.what, x.image, fault(api.ErrRange, x.over))
			continue
		}
		b := analysed(t, x.image)
		if b.Worst != most || slices.Max(b.Rest) != most {
			t.Errorf("%s: %v", x.what, b)
		}
		wantProves(t, x.what, x.image, most, b.Rest, true)
		wantProves(t, x.what, x.image, most-1, b.Rest, false)
		wantProves(t, x.what, x.image, math.MaxInt, with(b.Rest, 0, most+1), false)
	}
}

// TestDeepLoops: eight loops within one another take longer than an int can tell; three of them have their time.
func TestDeepLoops(t *testing.T) {
	var image []api.Ins
	for a := range 8 {
		image = append(image, count(a, 1000))
	}
	for a := 7; a >= 0; a-- {
		image = append(image, again(a, a+1))
	}
	wantNothing(t, "eight", image, fault(api.ErrRange, 4))
	for a := range 5 {
		image[a].B = 0
	}
	if b := analysed(t, image); b.Rest[7] != 2002 || b.Rest[6] != 2002*1002 || b.Worst != 10+2002+2002*1002*1001 {
		t.Errorf("%v", b)
	}
}

// refused are images that Check doesn't take.
func refused() [][]api.Ins {
	return [][]api.Ins{
		{{}},
		{work(1), {Op: 19}},
		{{Op: -1}},
		{{Op: math.MinInt, A: math.MinInt, B: math.MinInt}},
		{work(0)},
		{work(1001)},
		{work(1), work(-5)},
		{count(0, 1001), again(0, 1)},
		{count(0, -1), again(0, 1)},
		{count(8, 1), again(8, 1)},
		{count(0, math.MaxInt), again(0, 1)},
		{lock(4), unlock(4)},
		{lock(-1), unlock(-1)},
		{count(0, 1)},
		{work(2), again(0, 1)},
		{lock(0)},
		{unlock(0)},
		{work(1), stop(0)},
		{count(0, 1), lock(0), again(0, 1), unlock(0)},
		{count(0, 1), again(0, 0)},
		{jump(0)},
		{jump(2)},
		{jump(2000)},
		{jump(-1)},
		{jump(2), work(1)},
		{lock(0), jump(3), unlock(0)},
		{load(0), skip(1)},
		{store(0)},
		{{Op: api.IAdd}},
		{load(0)},
		{count(0, 1), load(0), again(0, 1)},
		slices.Repeat([]api.Ins{work(1)}, 2001),
		slices.Repeat([]api.Ins{unlock(0)}, 3000),
	}
}

// TestRefused: what Check says is told, and nothing is proved.
func TestRefused(t *testing.T) {
	for _, image := range refused() {
		f := mach.Check(image)
		if f == (api.Fault{}) {
			t.Fatalf("%v: Check takes it", image)
		}
		wantNothing(t, fmt.Sprintf("%.200v", image), image, f)
		wantProves(t, "no numbers", image, most, nil, false)
	}
	long := slices.Concat(lasting(most+1, 0, 0), []api.Ins{load(0)})
	wantNothing(t, "too much, and wrong at the end", long, fault(api.ErrStack, len(long)))
	whole := slices.Repeat([]api.Ins{work(1000)}, 2000)
	if b := analysed(t, whole); b.Worst != 2000000 || b.Rest[1999] != 1000 {
		t.Errorf("as many as may be: %d", b.Worst)
	}
}

// TestProves: what is wrong with numbers that are told of an image, beside what TestRules asks of each.
func TestProves(t *testing.T) {
	image := instructions(t, "lock 2, count 0 2, work 5, again 0 2, unlock 2, in 0, skip 8, work 9")
	rest := []int{35, 22, 5, 0, 1, 12, 10, 9}
	wantJust(t, "as it is", image, rest)
	wantProves(t, "too short", image, 99, rest[:7], false)
	wantProves(t, "no numbers", image, 99, nil, false)
	wantProves(t, "too long", image, 99, append(slices.Clone(rest), 0), false)
	wantProves(t, "much too long", image, 99, append(slices.Clone(rest), rest...), false)
	wantProves(t, "one ahead", image, 99, append([]int{35}, rest...), false)
	for _, worst := range []int{math.MinInt, -35, -1, 0, 34} {
		wantProves(t, "too little", image, worst, rest, false)
	}
	for _, worst := range []int{35, 36, most, most + 1, math.MaxInt} {
		wantProves(t, "enough", image, worst, rest, true)
	}
	for at := range rest {
		for _, n := range []int{math.MinInt, -most, -1, most + 1, math.MaxInt} {
			wantProves(t, "no number of Rest", image, math.MaxInt, with(rest, at, n), false)
		}
	}
	wantProves(t, "as much as may be", image, most, with(rest, 0, most), true)
	wantProves(t, "and less for Worst", image, most-1, with(rest, 0, most), false)
	// One more somewhere asks for more ahead of it.
	wantProves(t, "one more in the loop", image, 99, []int{35, 22, 6, 0, 1, 12, 10, 9}, false)
	wantProves(t, "two more ahead of it", image, 99, []int{38, 24, 6, 0, 1, 12, 10, 9}, false)
	wantProves(t, "three more", image, 99, []int{38, 25, 6, 0, 1, 12, 10, 9}, true)
	wantProves(t, "one more where it goes back", image, 99, []int{35, 22, 5, 1, 1, 12, 10, 9}, false)
	wantProves(t, "and ahead of it", image, 99, []int{38, 25, 6, 1, 1, 12, 10, 9}, true)
	wantProves(t, "one more behind the lock", image, 99, []int{35, 22, 5, 0, 1, 13, 10, 9}, false)
	wantProves(t, "and ahead of the lock", image, 99, []int{36, 22, 5, 0, 1, 13, 10, 9}, true)
}

// TestProvesGoesRound: numbers that would become small if they went round prove nothing.
func TestProvesGoesRound(t *testing.T) {
	image := instructions(t, "count 0 999, work 1, again 0 1")
	wantJust(t, "as it is", image, []int{3000, 1, 0})
	for _, n := range []int{1 << 61, 1 << 62, 3 << 61, math.MinInt, -1 << 61, math.MaxInt, math.MaxInt / 1000, 1 << 41, most} {
		for _, first := range []int{0, 2000, 3000, most, math.MaxInt} {
			wantProves(t, "too much in a loop", image, math.MaxInt, []int{first, n, 0}, false)
		}
	}
	for _, n := range []int{math.MaxInt, math.MinInt} {
		wantProves(t, "too much behind", instructions(t, "work 5, work 5"), math.MaxInt, []int{10, n}, false)
		wantProves(t, "too much where it goes on", instructions(t, "in 0, skip 3, work 1, work 1"), math.MaxInt, []int{10, 10, 10, n}, false)
	}
}

// TestHeld: how long each lock is held at most.
func TestHeld(t *testing.T) {
	for _, x := range []struct {
		text string
		want []int
	}{
		{"work 5", []int{0, 0, 0, 0}},
		{"count 0 5, work 3, again 0 1", []int{0, 0, 0, 0}},
		{"lock 0, unlock 0", []int{1, 0, 0, 0}},
		{"lock 3, work 9, unlock 3", []int{0, 0, 0, 10}},
		{"work 50 | lock 1, work 9, unlock 1 | work 60", []int{0, 10, 0, 0}},
		{"lock 2, work 9, unlock 2 | lock 2, work 3, unlock 2", []int{0, 0, 10, 0}},
		{"lock 2, work 3, unlock 2 | lock 2, work 9, unlock 2", []int{0, 0, 10, 0}},
		{"lock 2, work 3, unlock 2 | lock 2, work 9, unlock 2 | lock 2, unlock 2", []int{0, 0, 10, 0}},
		{"lock 0, work 3, lock 1, work 5, unlock 1, work 7, unlock 0", []int{3 + 7 + 8, 6, 0, 0}},
		{"lock 1, work 3, lock 0, work 5, unlock 0, work 7, unlock 1 | lock 0, work 6, unlock 0", []int{7, 3 + 7 + 8, 0, 0}},
		{"lock 0, lock 1, lock 2, lock 3, unlock 3, unlock 2, unlock 1, unlock 0", []int{7, 5, 3, 1}},
		{"count 0 9, lock 1, work 4, unlock 1, again 0 1", []int{0, 5, 0, 0}},
		{"lock 1, count 0 9, work 4, again 0 2, unlock 1", []int{0, 1 + 40 + 19 + 1, 0, 0}},
		{"lock 0, in 0, skip 5, work 9, jump 6, work 4, unlock 0", []int{2 + 1 + 9 + 2 + 1, 0, 0, 0}},
		{"in 0, skip 6, lock 0, work 9, unlock 0, jump 9, lock 0, work 90, unlock 0", []int{91, 0, 0, 0}},
		{"lock 0, unlock 0, lock 1, work 1, unlock 1, lock 2, work 2, unlock 2, lock 3, work 3, unlock 3", []int{1, 2, 3, 4}},
	} {
		held, f := wcet.Held(instructions(t, x.text))
		if f != (api.Fault{}) || !slices.Equal(held, x.want) {
			t.Errorf("%s: %v %v, want %v", x.text, held, f, x.want)
		}
	}
	long := slices.Concat([]api.Ins{lock(1)}, lasting(most-2, 1, 0), []api.Ins{unlock(1)})
	if held, f := wcet.Held(long); f != (api.Fault{}) || !slices.Equal(held, []int{0, most - 1, 0, 0}) {
		t.Errorf("%v %v", held, f)
	}
}
