package mach

import (
	"slices"

	"punctual/api"
)

// look tells what is wrong with an instruction. It is asked of all of them in their order, and may keep what it has learnt of those ahead.
type look func(at int, x api.Ins) api.Errno

// Check tells what is wrong with an image.
func Check(image []api.Ins) api.Fault {
	if len(image) > api.MaxIns {
		return api.Fault{Code: api.ErrMany}
	}
	r := regions{image: image, within: make([]int, len(image)+1)}
	heights := map[int]int{0: 0}
	for _, wrong := range []look{form, r.nested, r.unclosed, jumps(r.within), stack(heights)} {
		for at, x := range image {
			if code := wrong(at, x); code != api.OK {
				return api.Fault{Code: code, At: at}
			}
		}
	}
	if heights[len(image)] != 0 {
		return api.Fault{Code: api.ErrStack, At: len(image)}
	}
	return api.Fault{}
}

func form(_ int, x api.Ins) api.Errno {
	if !isInstruction(x) {
		return api.ErrOp
	}
	k := kinds[x.Op]
	if x.A < k.leastA || x.A > k.mostA || x.B < 0 || x.B > k.mostB {
		return api.ErrRange
	}
	return api.OK
}

// regions are told by the numbers at which they begin, behind what opens them: so 0 is none.
type regions struct {
	image  []api.Ins
	open   []int // the innermost one is the last
	within []int // of each number: the innermost region to which it belongs
}

func (r *regions) innermost() int {
	if len(r.open) == 0 {
		return 0
	}
	return r.open[len(r.open)-1]
}

// begins: where does the open region begin that such an instruction has opened? 0: none is open.
func (r *regions) begins(op, a int) int {
	for _, begin := range r.open {
		if x := r.image[begin-1]; x.Op == op && x.A == a {
			return begin
		}
	}
	return 0
}

// nested: what closes a region belongs to it, and what opens one doesn't; so an instruction is put where it belongs ahead of what it opens or closes.
func (r *regions) nested(at int, x api.Ins) api.Errno {
	inner := r.innermost()
	r.within[at] = inner
	switch x.Op {
	case api.ICount, api.ILock:
		if r.begins(x.Op, x.A) != 0 {
			return ofRegion(x.Op)
		}
		r.open = append(r.open, at+1)
	case api.IAgain:
		if inner == 0 || r.begins(api.ICount, x.A) != inner || x.B != inner {
			return api.ErrLoop
		}
		r.open = r.open[:len(r.open)-1]
	case api.IUnlock:
		if inner == 0 || r.begins(api.ILock, x.A) != inner {
			return api.ErrLock
		}
		r.open = r.open[:len(r.open)-1]
	case api.IStop:
		if r.begins(api.ICount, x.A) == 0 {
			return api.ErrLoop
		}
	}
	return api.OK
}

// unclosed is asked when all instructions were looked at: what is still open then, nothing closes.
func (r *regions) unclosed(at int, x api.Ins) api.Errno {
	if slices.Contains(r.open, at+1) {
		return ofRegion(x.Op)
	}
	return api.OK
}

// ofRegion is what is wrong where one that opens regions may not stand.
func ofRegion(op int) api.Errno {
	if op == api.ICount {
		return api.ErrLoop
	}
	return api.ErrLock
}

// jumps looks at those that go on further below; where loops go on was looked at with their regions.
func jumps(within []int) look {
	return func(at int, x api.Ins) api.Errno {
		if x.Op != api.IJump && x.Op != api.ISkip {
			return api.OK
		}
		if x.A <= at || x.A >= len(within) || within[x.A] != within[at] {
			return api.ErrJump
		}
		return api.OK
	}
}

// stack fills in the heights, of which those are there to which something leads. All ways but those of loops lead further below: so all that lead to an instruction are known when it is come to, and what loops lead back to is known, too.
func stack(heights map[int]int) look {
	return func(at int, x api.Ins) api.Errno {
		height, led := heights[at]
		if !led {
			return api.ErrJump
		}
		k := kinds[x.Op]
		behind := height - k.takes + k.puts
		if height < k.takes || behind > api.MaxStack {
			return api.ErrStack
		}
		for _, to := range ways(at, x) {
			if other, led := heights[to]; led && other != behind {
				return api.ErrStack
			}
			heights[to] = behind
		}
		return api.OK
	}
}

// ways are the numbers at which an instruction may go on.
func ways(at int, x api.Ins) []int {
	switch x.Op {
	case api.IJump:
		return []int{x.A}
	case api.ISkip:
		return []int{x.A, at + 1}
	case api.IAgain:
		return []int{x.B, at + 1}
	}
	return []int{at + 1}
}
