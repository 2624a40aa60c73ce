package frac_test

import (
	"math"
	"slices"
	"testing"

	"punctual/api"
	"punctual/frac"
)

func TestGcd(t *testing.T) {
	for _, c := range []struct{ a, b, want int }{
		{12, 18, 6}, {18, 12, 6}, {7, 7, 7}, {1, 9, 1}, {8, 9, 1},
		{0, 0, 0}, {0, 5, 5}, {5, 0, 5},
		{-1, 5, 0}, {5, -1, 0}, {-4, -6, 0}, {-4, 0, 0}, {0, -4, 0},
		{math.MinInt, math.MinInt, 0}, {math.MinInt, 2, 0}, {2, math.MinInt, 0}, {math.MinInt, -1, 0}, {-1, math.MinInt, 0},
		{math.MaxInt, math.MaxInt, math.MaxInt}, {math.MaxInt, 0, math.MaxInt}, {math.MaxInt, 7, 7}, {math.MaxInt, math.MaxInt - 1, 1},
		{7540113804746346429, 4660046610375530309, 1},
	} {
		if got := frac.Gcd(c.a, c.b); got != c.want {
			t.Errorf("Gcd(%d, %d): %d, want %d", c.a, c.b, got, c.want)
		}
	}
}

func TestGcdAgainstAllDivisors(t *testing.T) {
	for a := 0; a <= 40; a++ {
		for b := 0; b <= 40; b++ {
			want := 0
			for n := 1; n <= max(a, b); n++ {
				if a%n == 0 && b%n == 0 {
					want = n
				}
			}
			if got := frac.Gcd(a, b); got != want {
				t.Errorf("Gcd(%d, %d): %d, want %d", a, b, got, want)
			}
		}
	}
}

func TestLcm(t *testing.T) {
	for _, c := range []struct {
		l    []int
		most int
		want int
		e    api.Errno
	}{
		{[]int{4, 6, 10}, 60, 60, api.OK},
		{[]int{4, 6, 10}, 59, 0, api.ErrMany},
		{nil, 1, 1, api.OK},
		{[]int{}, math.MaxInt, 1, api.OK},
		{nil, 0, 0, api.ErrMany},
		{nil, -1, 0, api.ErrMany},
		{nil, math.MinInt, 0, api.ErrMany},
		{[]int{1}, 0, 0, api.ErrMany},
		{[]int{1}, -5, 0, api.ErrMany},
		{[]int{5}, math.MinInt, 0, api.ErrMany},
		{[]int{0}, 60, 0, api.ErrRange},
		{[]int{-4}, 60, 0, api.ErrRange},
		{[]int{math.MinInt}, 60, 0, api.ErrRange},
		{[]int{4, 0}, 60, 0, api.ErrRange},
		{[]int{7, 7, 7}, 7, 7, api.OK},
		{[]int{1, 1}, 1, 1, api.OK},
		{[]int{math.MaxInt}, math.MaxInt, math.MaxInt, api.OK},
		{[]int{math.MaxInt}, math.MaxInt - 1, 0, api.ErrMany},
		{[]int{math.MaxInt, math.MaxInt}, math.MaxInt, math.MaxInt, api.OK},
		{[]int{math.MaxInt, 2}, math.MaxInt, 0, api.ErrMany},
		{[]int{math.MaxInt, math.MaxInt - 1}, math.MaxInt, 0, api.ErrMany},
		{[]int{1 << 32, 1<<32 - 1}, math.MaxInt, 0, api.ErrMany},
		{[]int{1 << 62, 3}, math.MaxInt, 0, api.ErrMany},
		{[]int{1 << 62, 1 << 61}, math.MaxInt, 1 << 62, api.OK},
	} {
		if got, e := frac.Lcm(c.l, c.most); got != c.want || e != c.e {
			t.Errorf("Lcm(%v, %d): %d, %v, want %d, %v", c.l, c.most, got, e, c.want, c.e)
		}
	}
}

// TestLcmTellsTheFirstError: the entries are looked at one after the other, and most itself at last.
func TestLcmTellsTheFirstError(t *testing.T) {
	for _, c := range []struct {
		l    []int
		most int
		e    api.Errno
	}{
		{[]int{61, 0}, 60, api.ErrMany},
		{[]int{0, 61}, 60, api.ErrRange},
		{[]int{7, 11, -1}, 60, api.ErrMany},
		{[]int{7, -1, 11}, 60, api.ErrRange},
		{[]int{0}, 0, api.ErrRange},
		{[]int{1, 0}, 0, api.ErrMany},
	} {
		if got, e := frac.Lcm(c.l, c.most); got != 0 || e != c.e {
			t.Errorf("Lcm(%v, %d): %d, %v, want %v", c.l, c.most, got, e, c.e)
		}
	}
}

func TestLcmAgainstAllMultiples(t *testing.T) {
	const most = 700
	for a := 1; a <= 12; a++ {
		for b := 1; b <= 12; b++ {
			for c := 1; c <= 12; c++ {
				want, e := 0, api.ErrMany
				for n := most; n >= 1; n-- {
					if n%a == 0 && n%b == 0 && n%c == 0 {
						want, e = n, api.OK
					}
				}
				if got, f := frac.Lcm([]int{a, b, c}, most); got != want || f != e {
					t.Errorf("Lcm of %d, %d, %d: %d, %v, want %d, %v", a, b, c, got, f, want, e)
				}
			}
		}
	}
}

func TestLcmOnlyReads(t *testing.T) {
	room := []int{4, 6, 10, 77, 78}
	frac.Lcm(room[:3], 60)
	if !slices.Equal(room, []int{4, 6, 10, 77, 78}) {
		t.Errorf("%v", room)
	}
}
