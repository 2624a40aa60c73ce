package frac

import (
	"math/big"
	"strings"

	"punctual/api"
)

// Text is x in lowest terms, without the bar if what is below it is 1.
func (x Frac) Text() string { return x.rat().RatString() }

// Parse reads what Text writes.
func Parse(text string) (Frac, api.Fault) {
	if len(text) > api.MaxText {
		return Frac{}, api.Fault{Code: api.ErrMany}
	}
	if n := fraction(text); n.open || n.length < len(text) {
		return Frac{}, api.Fault{Code: api.ErrText, At: n.length}
	}
	x := value(text)
	if x.Text() != text {
		return Frac{}, api.Fault{Code: api.ErrOrder}
	}
	return x, api.Fault{}
}

// beginning is the longest beginning of a text with which something of a form begins; open: it is not yet of that form, something must follow.
type beginning struct {
	length int
	open   bool
}

// fraction looks for a number, or a number, a bar and digits.
func fraction(text string) beginning {
	n := signed(text)
	if n.open || n.length == len(text) || text[n.length] != '/' {
		return n
	}
	bar := n.length + 1
	low := digits(text[bar:])
	return beginning{bar + low, low == 0}
}

// signed looks for 0, or digits, these perhaps with a sign ahead.
func signed(text string) beginning {
	if strings.HasPrefix(text, "0") {
		return beginning{1, false}
	}
	sign := 0
	if strings.HasPrefix(text, "-") {
		sign = 1
	}
	top := digits(text[sign:])
	return beginning{sign + top, top == 0}
}

// digits counts those with which the text begins: none if the first one is 0.
func digits(text string) int {
	if strings.HasPrefix(text, "0") {
		return 0
	}
	return len(text) - len(strings.TrimLeft(text, "0123456789"))
}

// value is the number of a text that is written as one.
func value(text string) Frac {
	top, low, bar := strings.Cut(text, "/")
	if !bar {
		low = "1"
	}
	return Frac{new(big.Rat).SetFrac(whole(top), whole(low))}
}

// whole is the number of digits that were looked over already.
func whole(digits string) *big.Int {
	n, _ := new(big.Int).SetString(digits, 10)
	return n
}
