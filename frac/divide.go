package frac

import "punctual/api"

// Gcd is the greatest number that divides both; 0 if both are 0, or if one is below 0.
func Gcd(a, b int) int {
	if a < 0 || b < 0 {
		return 0
	}
	for b != 0 {
		a, b = b, a%b
	}
	return a
}

// Lcm is the least number above 0 that all in l divide, if it is no more than most.
func Lcm(l []int, most int) (int, api.Errno) {
	least := 1
	for _, n := range l {
		if n < 1 {
			return 0, api.ErrRange
		}
		times := least / Gcd(least, n)
		// Asked ahead of the product, which might go round.
		if times > most/n {
			return 0, api.ErrMany
		}
		least = times * n
	}
	if most < 1 {
		return 0, api.ErrMany
	}
	return least, api.OK
}
