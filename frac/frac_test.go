package frac_test

import (
	"math"
	"math/big"
	"testing"

	"punctual/api"
	"punctual/frac"
)

// of makes a fraction that must be one.
func of(t *testing.T, a, b int) frac.Frac {
	t.Helper()
	x, e := frac.Of(a, b)
	if e != api.OK {
		t.Fatalf("Of(%d, %d): %v", a, b, e)
	}
	return x
}

// parsed reads a fraction that must be one.
func parsed(t *testing.T, text string) frac.Frac {
	t.Helper()
	x, f := frac.Parse(text)
	if f != (api.Fault{}) {
		t.Fatalf("Parse(%.40q): %v", text, f)
	}
	return x
}

func wantText(t *testing.T, what string, x frac.Frac, want string) {
	t.Helper()
	if got := x.Text(); got != want {
		t.Errorf("%s: %s, want %s", what, got, want)
	}
}

func TestOfIsInLowestTerms(t *testing.T) {
	for _, c := range []struct {
		a, b int
		want string
	}{
		{6, -4, "-3/2"},
		{-6, -4, "3/2"},
		{-6, 4, "-3/2"},
		{0, 5, "0"},
		{0, -5, "0"},
		{8, 4, "2"},
		{7, 1, "7"},
		{7, -1, "-7"},
		{math.MinInt, 1, "-9223372036854775808"},
		{math.MinInt, -1, "9223372036854775808"},
		{1, math.MinInt, "-1/9223372036854775808"},
		{math.MinInt, math.MinInt, "1"},
		{math.MaxInt, math.MinInt, "-9223372036854775807/9223372036854775808"},
		{math.MinInt, 2, "-4611686018427387904"},
	} {
		wantText(t, "Of", of(t, c.a, c.b), c.want)
	}
}

func TestOfNought(t *testing.T) {
	for _, a := range []int{0, 1, -1, math.MinInt, math.MaxInt} {
		x, e := frac.Of(a, 0)
		if e != api.ErrRange || x != (frac.Frac{}) {
			t.Errorf("Of(%d, 0): %v, %v", a, x, e)
		}
	}
}

func TestReckoning(t *testing.T) {
	x, y := of(t, -3, 2), of(t, 1, 3)
	wantText(t, "sum", x.Add(y), "-7/6")
	wantText(t, "difference", x.Sub(y), "-11/6")
	wantText(t, "difference the other way", y.Sub(x), "11/6")
	wantText(t, "product", x.Mul(y), "-1/2")
	z, e := x.Over(y)
	wantText(t, "over", z, "-9/2")
	if e != api.OK {
		t.Errorf("over: %v", e)
	}
	wantText(t, "x is as it was", x, "-3/2")
	wantText(t, "y is as it was", y, "1/3")
}

// TestReckoningAgainstWholeNumbers holds all small fractions against what is told by whole numbers alone.
func TestReckoningAgainstWholeNumbers(t *testing.T) {
	const most = 5
	for a := -most; a <= most; a++ {
		for b := 1; b <= most; b++ {
			for c := -most; c <= most; c++ {
				for d := 1; d <= most; d++ {
					holdTwo(t, a, b, c, d)
				}
			}
		}
	}
}

func holdTwo(t *testing.T, a, b, c, d int) {
	t.Helper()
	x, y := of(t, a, b), of(t, c, d)
	wantText(t, "sum", x.Add(y), of(t, a*d+c*b, b*d).Text())
	wantText(t, "difference", x.Sub(y), of(t, a*d-c*b, b*d).Text())
	wantText(t, "product", x.Mul(y), of(t, a*c, b*d).Text())
	sign := 0
	if a*d < c*b {
		sign = -1
	} else if a*d > c*b {
		sign = 1
	}
	if got := x.Cmp(y); got != sign {
		t.Errorf("Cmp of %d/%d and %d/%d: %d", a, b, c, d, got)
	}
	z, e := x.Over(y)
	if c == 0 {
		if e != api.ErrRange || z != (frac.Frac{}) {
			t.Errorf("%d/%d over nought: %v, %v", a, b, z, e)
		}
		return
	}
	if e != api.OK {
		t.Errorf("%d/%d over %d/%d: %v", a, b, c, d, e)
	}
	wantText(t, "over", z, of(t, a*d, b*c).Text())
}

func TestTheZeroValueIsNought(t *testing.T) {
	var none frac.Frac
	x := of(t, -2, 3)
	wantText(t, "itself", none, "0")
	wantText(t, "nought and x", none.Add(x), "-2/3")
	wantText(t, "x and nought", x.Add(none), "-2/3")
	wantText(t, "nought less x", none.Sub(x), "2/3")
	wantText(t, "x less nought", x.Sub(none), "-2/3")
	wantText(t, "product", none.Mul(x), "0")
	wantText(t, "sum of none", none.Add(none), "0")
	z, e := none.Over(x)
	if z.Text() != "0" || e != api.OK {
		t.Errorf("nought over x: %s, %v", z.Text(), e)
	}
	if z, e = x.Over(none); e != api.ErrRange || z != (frac.Frac{}) {
		t.Errorf("x over nought: %v, %v", z, e)
	}
	if _, e = none.Over(none); e != api.ErrRange {
		t.Errorf("nought over nought: %v", e)
	}
	if none.Cmp(of(t, 0, 7)) != 0 || none.Cmp(x) != 1 || x.Cmp(none) != -1 || none.Cmp(none) != 0 {
		t.Error("Cmp with the zero value")
	}
	if n, e := none.Floor(); n != 0 || e != api.OK {
		t.Errorf("Floor: %d, %v", n, e)
	}
}

func TestOneFractionTwice(t *testing.T) {
	x := of(t, -3, 2)
	wantText(t, "sum", x.Add(x), "-3")
	wantText(t, "difference", x.Sub(x), "0")
	wantText(t, "product", x.Mul(x), "9/4")
	z, e := x.Over(x)
	if z.Text() != "1" || e != api.OK || x.Cmp(x) != 0 {
		t.Errorf("over: %s, %v; Cmp: %d", z.Text(), e, x.Cmp(x))
	}
	wantText(t, "x is as it was", x, "-3/2")
}

func TestNoLengthIsTooLong(t *testing.T) {
	x, up := of(t, 1, 1), of(t, math.MaxInt, 2)
	for range 40 {
		x = x.Mul(up)
	}
	for range 40 {
		x, _ = x.Over(up)
	}
	wantText(t, "there and back", x, "1")
	sum := frac.Frac{}
	for n := 1; n <= 200; n++ {
		sum = sum.Add(of(t, 1, n))
	}
	for n := 200; n >= 1; n-- {
		sum = sum.Sub(of(t, 1, n))
	}
	wantText(t, "many parts, and back", sum, "0")
}

func TestCmpOfWhatIsNearlyTheSame(t *testing.T) {
	x := of(t, math.MaxInt-1, math.MaxInt)
	y := of(t, math.MaxInt-2, math.MaxInt-1)
	if x.Cmp(y) != 1 || y.Cmp(x) != -1 {
		t.Errorf("%d, %d", x.Cmp(y), y.Cmp(x))
	}
	if of(t, 2, -4).Cmp(of(t, -1, 2)) != 0 {
		t.Error("the same number, written otherwise")
	}
}

func TestFloor(t *testing.T) {
	for _, c := range []struct{ a, b, want int }{
		{6, -4, -2}, {3, 2, 1}, {-1, 3, -1}, {1, 3, 0}, {-4, 2, -2}, {4, 2, 2}, {0, 3, 0},
		{math.MinInt, 1, math.MinInt},
		{math.MaxInt, 1, math.MaxInt},
		{math.MaxInt, 2, math.MaxInt / 2},
		{math.MinInt + 1, 2, math.MinInt / 2},
	} {
		if n, e := of(t, c.a, c.b).Floor(); n != c.want || e != api.OK {
			t.Errorf("Floor of %d/%d: %d, %v, want %d", c.a, c.b, n, e, c.want)
		}
	}
}

func TestFloorAtTheEdges(t *testing.T) {
	for _, c := range []struct {
		text string
		want int
		e    api.Errno
	}{
		{"9223372036854775807", math.MaxInt, api.OK},
		{"18446744073709551615/2", math.MaxInt, api.OK},
		{"9223372036854775808", 0, api.ErrRange},
		{"-9223372036854775808", math.MinInt, api.OK},
		{"-9223372036854775809", 0, api.ErrRange},
		{"-18446744073709551617/2", 0, api.ErrRange},
		{"-18446744073709551615/2", math.MinInt, api.OK},
		{"100000000000000000000000000000000000001", 0, api.ErrRange},
		{"-18446744073709551616", 0, api.ErrRange},
	} {
		if n, e := parsed(t, c.text).Floor(); n != c.want || e != c.e {
			t.Errorf("Floor of %s: %d, %v", c.text, n, e)
		}
	}
}

// TestFloorAgainstTheBounds: the number is not above the fraction, and one more is.
func TestFloorAgainstTheBounds(t *testing.T) {
	for a := -40; a <= 40; a++ {
		for b := 1; b <= 9; b++ {
			x := of(t, a, b)
			n, _ := x.Floor()
			if of(t, n, 1).Cmp(x) > 0 || of(t, n+1, 1).Cmp(x) <= 0 {
				t.Errorf("Floor of %d/%d: %d", a, b, n)
			}
		}
	}
}

func TestBigPartsAgainstTheLibrary(t *testing.T) {
	texts := []string{"0", "1", "-1", "340282366920938463463374607431768211457/18446744073709551616", "-99999999999999999999/7", "6700417/4294967297", "123456789012345678901234567890"}
	for _, a := range texts {
		for _, b := range texts {
			p, ok := new(big.Rat).SetString(a)
			q, ok2 := new(big.Rat).SetString(b)
			if !ok || !ok2 {
				t.Fatal(a, b)
			}
			x, y := fromRat(t, p), fromRat(t, q)
			wantText(t, "sum", x.Add(y), new(big.Rat).Add(p, q).RatString())
			wantText(t, "difference", x.Sub(y), new(big.Rat).Sub(p, q).RatString())
			wantText(t, "product", x.Mul(y), new(big.Rat).Mul(p, q).RatString())
			if x.Cmp(y) != p.Cmp(q) {
				t.Errorf("Cmp of %s and %s: %d", a, b, x.Cmp(y))
			}
		}
	}
}

// fromRat goes over whole numbers: the library's texts needn't be in lowest terms.
func fromRat(t *testing.T, r *big.Rat) frac.Frac {
	t.Helper()
	z, e := parsed(t, r.Num().String()).Over(parsed(t, r.Denom().String()))
	if e != api.OK {
		t.Fatal(e)
	}
	return z
}
