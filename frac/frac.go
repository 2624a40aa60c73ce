// Package frac has fractions: see doc/01-frac.md.
package frac

import (
	"math/big"

	"punctual/api"
)

// Frac is a number a/b, exact. What it points to is never changed once it is made, so that copies may share it; without it the number is 0.
type Frac struct {
	number *big.Rat
}

// Of is a over b.
func Of(a, b int) (Frac, api.Errno) {
	if b == 0 {
		return Frac{}, api.ErrRange
	}
	return Frac{big.NewRat(int64(a), int64(b))}, api.OK
}

// Add is the sum of x and y.
func (x Frac) Add(y Frac) Frac { return x.reckon((*big.Rat).Add, y) }

// Sub is what is left of x without y.
func (x Frac) Sub(y Frac) Frac { return x.reckon((*big.Rat).Sub, y) }

// Mul is the product of x and y.
func (x Frac) Mul(y Frac) Frac { return x.reckon((*big.Rat).Mul, y) }

// Over is x over y.
func (x Frac) Over(y Frac) (Frac, api.Errno) {
	if y.rat().Sign() == 0 {
		return Frac{}, api.ErrRange
	}
	return x.reckon((*big.Rat).Quo, y), api.OK
}

// Cmp is -1, 0 or 1, as x is less than y, y, or more.
func (x Frac) Cmp(y Frac) int { return x.rat().Cmp(y.rat()) }

// Floor is x rounded down.
func (x Frac) Floor() (int, api.Errno) {
	r := x.rat()
	// Div leaves a rest that is never below 0, and what is below the bar is above 0: so it rounds down, not towards 0.
	n := new(big.Int).Div(r.Num(), r.Denom())
	if !n.IsInt64() {
		return 0, api.ErrRange
	}
	return int(n.Int64()), api.OK
}

// rat is the number itself, to be read alone.
func (x Frac) rat() *big.Rat {
	if x.number == nil {
		return new(big.Rat)
	}
	return x.number
}

// reckon does what a method of the library does with two numbers, and lays the outcome into a new one: neither x nor y may change.
func (x Frac) reckon(do func(into, a, b *big.Rat) *big.Rat, y Frac) Frac {
	return Frac{do(new(big.Rat), x.rat(), y.rat())}
}
