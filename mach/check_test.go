package mach_test

import (
	"math"
	"math/rand"
	"slices"
	"testing"

	"punctual/api"
	"punctual/mach"
)

// TestTaken: images with which nothing is wrong.
func TestTaken(t *testing.T) {
	for _, image := range [][]api.Ins{
		nil,
		{},
		{work(1)},
		{push(0), store(0)},
		{push(999999999), load(7), plain(api.IAdd), out(3)},
		{jump(1)},
		{push(1), skip(2)},
		{push(1), skip(3), work(1)},
		{count(0, 0), again(0, 1)},
		{count(7, 1000), again(7, 1)},
		{count(0, 3), count(1, 3), again(1, 2), again(0, 1)},
		{count(0, 3), again(0, 1), count(0, 3), again(0, 3)},
		{count(0, 3), lock(0), unlock(0), again(0, 1)},
		{lock(0), count(0, 3), again(0, 2), unlock(0)},
		{lock(0), lock(1), lock(2), lock(3), unlock(3), unlock(2), unlock(1), unlock(0)},
		{lock(1), unlock(1), lock(1), unlock(1)},
		{count(0, 3), stop(0), again(0, 1)},
		{count(0, 3), count(1, 3), stop(0), again(1, 2), lock(2), stop(0), unlock(2), again(0, 1)},
		{count(0, 3), jump(2), again(0, 1)},
		{lock(0), push(1), skip(4), work(2), unlock(0)},
		{jump(1), lock(0), unlock(0), jump(4), count(1, 0), again(1, 5)},
		{push(1), skip(4), lock(0), unlock(0), work(1)},
		{count(2, 0), push(1), skip(5), lock(0), unlock(0), again(2, 1)},
		{push(1), count(0, 1), push(2), plain(api.ISub), again(0, 2), store(1)},
		{push(1), skip(4), push(2), jump(5), push(3), out(0)},
		{input(0), store(3)},
	} {
		wantCheck(t, image, api.Fault{})
		if want := otherCheck(image); want != (api.Fault{}) {
			t.Errorf("%v: the other way: %v", image, want)
		}
	}
}

// ranges: from which number on to which the A of an instruction goes, and up to which its B.
var ranges = map[int][3]int{
	api.IPush: {0, 999999999, 0}, api.ILoad: {0, 7, 0}, api.IStore: {0, 7, 0},
	api.IAdd: {}, api.ISub: {}, api.IMul: {}, api.ILess: {}, api.ISame: {},
	api.IIn: {0, 3, 0}, api.IOut: {0, 3, 0}, api.IJump: {0, 2000, 0}, api.ISkip: {0, 2000, 0},
	api.ICount: {0, 7, 1000}, api.IAgain: {0, 7, 2000}, api.IStop: {0, 7, 0},
	api.ILock: {0, 3, 0}, api.IUnlock: {0, 3, 0}, api.IWork: {1, 1000, 0},
}

// TestForm: which numbers an instruction may have. Where it may have them, something else is said, or nothing.
func TestForm(t *testing.T) {
	for op := -3; op <= 25; op++ {
		for _, a := range []int{math.MinInt, -1, 0, 1, 3, 4, 7, 8, 1000, 1001, 2000, 2001, 999999999, 1000000000, math.MaxInt} {
			for _, b := range []int{math.MinInt, -1, 0, 1, 1000, 1001, 2000, 2001, math.MaxInt} {
				code := mach.Check([]api.Ins{work(1), {Op: op, A: a, B: b}}).Code
				r, ok := ranges[op]
				if !ok {
					if code != api.ErrOp {
						t.Errorf("%d %d %d: %v", op, a, b, code)
					}
					continue
				}
				if within := r[0] <= a && a <= r[1] && 0 <= b && b <= r[2]; within == (code == api.ErrRange) || code == api.ErrOp {
					t.Errorf("%d %d %d: %v", op, a, b, code)
				}
			}
		}
	}
	for _, op := range []int{math.MinInt, -1, 0, 19, 20, math.MaxInt} {
		wantCheck(t, []api.Ins{work(1), work(2), {Op: op, A: -1, B: -1}}, fault(api.ErrOp, 2))
	}
}

// TestNested: regions that don't lie within one another or apart.
func TestNested(t *testing.T) {
	for _, c := range []struct {
		image []api.Ins
		want  api.Fault
	}{
		{[]api.Ins{count(0, 1), count(0, 1), again(0, 2), again(0, 1)}, fault(api.ErrLoop, 1)},
		{[]api.Ins{count(0, 1), count(1, 1), count(0, 1)}, fault(api.ErrLoop, 2)},
		{[]api.Ins{count(0, 1), lock(0), count(0, 1)}, fault(api.ErrLoop, 2)},
		{[]api.Ins{lock(2), lock(2), unlock(2), unlock(2)}, fault(api.ErrLock, 1)},
		{[]api.Ins{lock(2), count(2, 0), lock(2)}, fault(api.ErrLock, 2)},
		{[]api.Ins{again(0, 0)}, fault(api.ErrLoop, 0)},
		{[]api.Ins{work(1), again(0, 1)}, fault(api.ErrLoop, 1)},
		{[]api.Ins{unlock(0)}, fault(api.ErrLock, 0)},
		{[]api.Ins{count(0, 1), again(1, 1)}, fault(api.ErrLoop, 1)},
		{[]api.Ins{count(0, 1), again(0, 0)}, fault(api.ErrLoop, 1)},
		{[]api.Ins{count(0, 1), again(0, 2)}, fault(api.ErrLoop, 1)},
		{[]api.Ins{count(0, 1), count(1, 1), again(0, 1), again(1, 2)}, fault(api.ErrLoop, 2)},
		{[]api.Ins{count(0, 1), count(1, 1), again(1, 1), again(0, 1)}, fault(api.ErrLoop, 2)},
		{[]api.Ins{count(0, 1), again(0, 1), again(0, 1)}, fault(api.ErrLoop, 2)},
		{[]api.Ins{count(0, 1), again(0, 1), count(0, 1), again(0, 1)}, fault(api.ErrLoop, 3)},
		{[]api.Ins{count(0, 1), lock(0), again(0, 1), unlock(0)}, fault(api.ErrLoop, 2)},
		{[]api.Ins{lock(0), count(0, 1), unlock(0), again(0, 2)}, fault(api.ErrLock, 2)},
		{[]api.Ins{lock(0), unlock(1)}, fault(api.ErrLock, 1)},
		{[]api.Ins{lock(0), again(0, 1)}, fault(api.ErrLoop, 1)},
		{[]api.Ins{count(0, 1), unlock(0)}, fault(api.ErrLock, 1)},
		{[]api.Ins{lock(0), lock(1), unlock(0), unlock(1)}, fault(api.ErrLock, 2)},
		{[]api.Ins{lock(0), unlock(0), unlock(0)}, fault(api.ErrLock, 2)},
		{[]api.Ins{stop(0)}, fault(api.ErrLoop, 0)},
		{[]api.Ins{lock(0), stop(0), unlock(0)}, fault(api.ErrLoop, 1)},
		{[]api.Ins{count(1, 1), stop(0), again(1, 1)}, fault(api.ErrLoop, 1)},
		{[]api.Ins{count(1, 1), again(1, 1), stop(1)}, fault(api.ErrLoop, 2)},
		{[]api.Ins{count(0, 1)}, fault(api.ErrLoop, 0)},
		{[]api.Ins{lock(0)}, fault(api.ErrLock, 0)},
		{[]api.Ins{work(1), lock(3), count(3, 1)}, fault(api.ErrLock, 1)},
		{[]api.Ins{work(1), count(3, 1), lock(3)}, fault(api.ErrLoop, 1)},
		{[]api.Ins{count(3, 1), lock(3), unlock(3)}, fault(api.ErrLoop, 0)},
		{[]api.Ins{lock(3), unlock(3), count(3, 1), again(3, 3), lock(3), count(2, 0)}, fault(api.ErrLock, 4)},
	} {
		wantCheck(t, c.image, c.want)
		if other := otherCheck(c.image); other != c.want {
			t.Errorf("%v: the other way: %v", c.image, other)
		}
	}
}

// TestJumps: where they may not lead.
func TestJumps(t *testing.T) {
	for _, c := range []struct {
		image []api.Ins
		want  api.Fault
	}{
		{[]api.Ins{jump(0)}, fault(api.ErrJump, 0)},
		{[]api.Ins{work(1), jump(0)}, fault(api.ErrJump, 1)},
		{[]api.Ins{work(1), jump(1)}, fault(api.ErrJump, 1)},
		{[]api.Ins{work(1), jump(3)}, fault(api.ErrJump, 1)},
		{[]api.Ins{work(1), jump(2000)}, fault(api.ErrJump, 1)},
		{[]api.Ins{push(1), skip(0)}, fault(api.ErrJump, 1)},
		{[]api.Ins{push(1), skip(1)}, fault(api.ErrJump, 1)},
		{[]api.Ins{push(1), skip(3)}, fault(api.ErrJump, 1)},
		{[]api.Ins{jump(2), count(0, 1), again(0, 2)}, fault(api.ErrJump, 0)},
		{[]api.Ins{jump(2), count(0, 1), work(1), again(0, 2)}, fault(api.ErrJump, 0)},
		{[]api.Ins{push(1), skip(3), lock(0), unlock(0)}, fault(api.ErrJump, 1)},
		{[]api.Ins{count(0, 1), jump(3), again(0, 1)}, fault(api.ErrJump, 1)},
		{[]api.Ins{count(0, 1), jump(3), again(0, 1), work(1)}, fault(api.ErrJump, 1)},
		{[]api.Ins{lock(0), push(1), skip(4), unlock(0), work(1)}, fault(api.ErrJump, 2)},
		{[]api.Ins{lock(0), push(1), skip(4), unlock(0)}, fault(api.ErrJump, 2)},
		{[]api.Ins{lock(0), jump(3), unlock(0), lock(1), unlock(1)}, fault(api.ErrJump, 1)},
		{[]api.Ins{lock(0), jump(4), unlock(0), lock(0), unlock(0)}, fault(api.ErrJump, 1)},
		{[]api.Ins{count(0, 1), jump(3), lock(0), unlock(0), again(0, 1)}, fault(api.ErrJump, 1)},
		{[]api.Ins{count(0, 1), lock(0), jump(4), unlock(0), again(0, 1)}, fault(api.ErrJump, 2)},
		{[]api.Ins{jump(2), work(1)}, fault(api.ErrJump, 1)},
		{[]api.Ins{jump(3), work(1), work(1)}, fault(api.ErrJump, 1)},
		{[]api.Ins{jump(3), lock(0), unlock(0)}, fault(api.ErrJump, 1)},
		{[]api.Ins{push(1), skip(3), jump(5), jump(5), work(1)}, fault(api.ErrJump, 4)},
		{[]api.Ins{jump(2), jump(2)}, fault(api.ErrJump, 1)},
	} {
		wantCheck(t, c.image, c.want)
		if other := otherCheck(c.image); other != c.want {
			t.Errorf("%v: the other way: %v", c.image, other)
		}
	}
}

// TestHeights: what is on the stack.
func TestHeights(t *testing.T) {
	for _, c := range []struct {
		image []api.Ins
		want  api.Fault
	}{
		{[]api.Ins{store(0)}, fault(api.ErrStack, 0)},
		{[]api.Ins{out(0)}, fault(api.ErrStack, 0)},
		{[]api.Ins{skip(1)}, fault(api.ErrStack, 0)},
		{[]api.Ins{push(1), plain(api.IAdd)}, fault(api.ErrStack, 1)},
		{[]api.Ins{load(1), plain(api.ISub)}, fault(api.ErrStack, 1)},
		{[]api.Ins{input(1), plain(api.IMul)}, fault(api.ErrStack, 1)},
		{[]api.Ins{push(1), plain(api.ILess)}, fault(api.ErrStack, 1)},
		{[]api.Ins{push(1), plain(api.ISame)}, fault(api.ErrStack, 1)},
		{[]api.Ins{push(1), push(1), plain(api.IAdd), store(0), store(0)}, fault(api.ErrStack, 4)},
		{[]api.Ins{push(1)}, fault(api.ErrStack, 1)},
		{[]api.Ins{push(1), push(1), plain(api.IAdd)}, fault(api.ErrStack, 3)},
		{[]api.Ins{push(1), jump(2)}, fault(api.ErrStack, 2)},
		{[]api.Ins{push(1), push(1), skip(3)}, fault(api.ErrStack, 3)},
		{[]api.Ins{push(1), skip(3), push(1), work(1)}, fault(api.ErrStack, 2)},
		{[]api.Ins{push(1), skip(3), push(1)}, fault(api.ErrStack, 2)},
		{[]api.Ins{push(1), skip(4), push(1), jump(4), work(1)}, fault(api.ErrStack, 3)},
		{[]api.Ins{push(1), skip(5), push(1), push(1), skip(5), work(1)}, fault(api.ErrStack, 4)},
		{[]api.Ins{push(1), skip(3), jump(5), push(2), store(1), push(3)}, fault(api.ErrStack, 6)},
		{[]api.Ins{push(1), skip(3), jump(4), push(2), store(1)}, fault(api.ErrStack, 3)},
		{[]api.Ins{count(0, 1), push(1), again(0, 1), store(0)}, fault(api.ErrStack, 2)},
		{[]api.Ins{push(1), count(0, 1), store(0), again(0, 2)}, fault(api.ErrStack, 3)},
		{[]api.Ins{push(1), count(0, 1), again(0, 2)}, fault(api.ErrStack, 3)},
		{[]api.Ins{push(1), lock(0), store(0), unlock(0), work(5), store(0)}, fault(api.ErrStack, 5)},
	} {
		wantCheck(t, c.image, c.want)
		if other := otherCheck(c.image); other != c.want {
			t.Errorf("%v: the other way: %v", c.image, other)
		}
	}
}

// TestStackFull: api.MaxStack numbers may be there, one more may not.
func TestStackFull(t *testing.T) {
	for _, more := range []api.Ins{push(5), load(5), input(3)} {
		image := append(slices.Repeat([]api.Ins{push(1)}, 19), more)
		for _, less := range []api.Ins{store(1), out(1), plain(api.IMul)} {
			rest := append(slices.Clone(image), less)
			rest = append(append(rest, more), slices.Repeat([]api.Ins{store(0)}, 20)...)
			wantCheck(t, rest, api.Fault{})
		}
		image = append(image, more)
		wantCheck(t, append(slices.Clone(image), slices.Repeat([]api.Ins{store(0)}, 21)...), fault(api.ErrStack, 20))
		wantCheck(t, image, fault(api.ErrStack, 20))
		wantCheck(t, image[:20], fault(api.ErrStack, 20))
	}
}

// TestOrder: what is looked for first is told, wherever it is.
func TestOrder(t *testing.T) {
	bad := []struct {
		what  string
		image []api.Ins
		code  api.Errno
		at    int
	}{
		{"form", []api.Ins{work(1), work(0)}, api.ErrRange, 1},
		{"nested", []api.Ins{work(1), stop(0)}, api.ErrLoop, 1},
		{"unclosed", []api.Ins{work(1), lock(0)}, api.ErrLock, 1},
		{"jump", []api.Ins{work(1), jump(0)}, api.ErrJump, 1},
		{"height", []api.Ins{work(1), store(0)}, api.ErrStack, 1},
		{"end", []api.Ins{work(1), push(0)}, api.ErrStack, 2},
	}
	for i, first := range bad {
		wantCheck(t, first.image, fault(first.code, first.at))
		for _, then := range bad[i+1:] {
			wantCheck(t, slices.Concat(first.image, then.image), fault(first.code, first.at))
			if first.what != "height" { // the one that is left over would be what it takes
				wantCheck(t, slices.Concat(then.image, first.image), fault(first.code, first.at+2))
			}
		}
	}
	wantCheck(t, []api.Ins{{Op: 19, A: -1}, {Op: 0}}, fault(api.ErrOp, 0))
	wantCheck(t, []api.Ins{work(0), {Op: 0}}, fault(api.ErrRange, 0))
	wantCheck(t, []api.Ins{unlock(0), stop(0)}, fault(api.ErrLock, 0))
	wantCheck(t, []api.Ins{count(0, 0), lock(0)}, fault(api.ErrLoop, 0))
	wantCheck(t, []api.Ins{lock(0), jump(0), stop(0)}, fault(api.ErrLoop, 2))
	wantCheck(t, []api.Ins{store(0), jump(3), work(1)}, fault(api.ErrStack, 0))
	wantCheck(t, []api.Ins{jump(2), store(0)}, fault(api.ErrJump, 1))
	wantCheck(t, []api.Ins{store(0), jump(1)}, fault(api.ErrJump, 1))
	wantCheck(t, append(slices.Repeat([]api.Ins{work(1)}, 2000), api.Ins{Op: 77}), fault(api.ErrMany, 0))
}

// TestLength: api.MaxIns instructions may be there, one more may not.
func TestLength(t *testing.T) {
	long := slices.Repeat([]api.Ins{work(1000)}, 2001)
	wantCheck(t, long[:2000], api.Fault{})
	wantCheck(t, long, fault(api.ErrMany, 0))
	wantNothing(t, "too many", long, nil, nil, fault(api.ErrMany, 0))
	jumps := slices.Clone(long[:2000])
	jumps[1999] = jump(2000)
	wantCheck(t, jumps, api.Fault{})
	jumps[1999] = api.Ins{Op: api.IJump, A: 2001}
	wantCheck(t, jumps, fault(api.ErrRange, 1999))
	loop := slices.Clone(long[:2000])
	loop[1998], loop[1999] = count(0, 0), again(0, 1999)
	wantCheck(t, loop, api.Fault{})
	loop[1999].B = 2000
	wantCheck(t, loop, fault(api.ErrLoop, 1999))
	deep := slices.Clone(long[:2000])
	for i := range 8 {
		deep[i], deep[1999-i] = count(i, 1000), again(i, i+1)
	}
	deep[8], deep[1991] = lock(3), unlock(3)
	wantCheck(t, deep, api.Fault{})
	deep[1000] = count(7, 0)
	wantCheck(t, deep, fault(api.ErrLoop, 1000))
}

// TestOtherCheck: images that were made well are taken; of those that were spoilt the same is said as by another way to look them over.
func TestOtherCheck(t *testing.T) {
	seen := map[api.Errno]int{}
	for seed := range int64(1500) {
		image, _, _ := made(seed)
		wantCheck(t, image, api.Fault{})
		r := rand.New(rand.NewSource(seed))
		for range 20 {
			if len(image) > 60 {
				break
			}
			bad := spoilt(r, image)
			want := otherCheck(bad)
			seen[want.Code]++
			if got := mach.Check(bad); got != want {
				t.Fatalf("seed %d: %v: %v, want %v", seed, bad, got, want)
			}
		}
	}
	for _, code := range []api.Errno{api.OK, api.ErrOp, api.ErrRange, api.ErrJump, api.ErrStack, api.ErrLoop, api.ErrLock} {
		if seen[code] < 100 {
			t.Errorf("%d images of code %d: too few", seen[code], code)
		}
	}
}

// TestAllShort: all images of a few instructions, of those that matter to one another, are judged as by the other way.
func TestAllShort(t *testing.T) {
	some := []api.Ins{
		push(1), store(0), plain(api.IAdd), jump(2), jump(3), jump(4), skip(2), skip(4),
		count(0, 0), again(0, 1), again(0, 2), stop(0), lock(0), unlock(0), work(1),
	}
	taken := 0
	var all func(image []api.Ins, left int)
	all = func(image []api.Ins, left int) {
		got, want := mach.Check(image), otherCheck(image)
		if got != want {
			t.Fatalf("%v: %v, want %v", image, got, want)
		}
		if got == (api.Fault{}) {
			taken++
		}
		for _, x := range some {
			if left > 0 {
				all(append(slices.Clip(image), x), left-1)
			}
		}
	}
	all(nil, 5)
	if taken < 400 {
		t.Errorf("%d were taken: too few", taken)
	}
}
