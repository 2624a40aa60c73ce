package fixed

import (
	"punctual/api"
	"punctual/frac"
	"punctual/tasks"
)

// Sum tells whether the tasks use so little together that by Rates nobody is late, whoever of them uses it.
func Sum(set []api.Task) (bool, api.Fault) {
	if f := check(set, plain); f.Code != api.OK {
		return false, f
	}
	all, _ := tasks.Use(set)
	mean, _ := all.Over(over(len(set), 1))
	return atMostTwo(set, func(api.Task) frac.Frac { return mean }), api.Fault{}
}

// Product tells whether the tasks use so little, each for itself, that by Rates nobody is late.
func Product(set []api.Task) (bool, api.Fault) {
	if f := check(set, plain); f.Code != api.OK {
		return false, f
	}
	return atMostTwo(set, func(t api.Task) frac.Frac { return over(t.C, t.T) }), api.Fault{}
}

// plain: only of such tasks the bounds say something.
func plain(t api.Task) bool { return t.D == t.T && t.J == 0 }

// atMostTwo tells whether the product of what each uses and 1 is at most 2.
func atMostTwo(set []api.Task, use func(t api.Task) frac.Frac) bool {
	product := over(1, 1)
	for _, t := range set {
		product = product.Mul(use(t).Add(over(1, 1)))
	}
	return product.Cmp(over(2, 1)) <= 0
}

// over is a over b, which is never 0 here.
func over(a, b int) frac.Frac {
	x, _ := frac.Of(a, b)
	return x
}
