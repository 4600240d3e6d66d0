// Package gauss is layer 1: Gaussian numbers, whose parts go round.
package gauss

import (
	"strconv"

	"sough/api"
)

// Wrap tells the number from MinPart to MaxPart that is n modulo 2^16.
func Wrap(n int) int { return int(int16(n)) }

// Of tells the number with both parts wrapped.
func Of(re, im int) api.Num { return api.Num{Re: Wrap(re), Im: Wrap(im)} }

// Is tells whether both parts are such as Wrap tells.
func Is(a api.Num) bool { return a == Of(a.Re, a.Im) }

// Add tells the sum.
func Add(a, b api.Num) api.Num { return sure(api.OpAdd, a, b) }

// Sub tells the difference.
func Sub(a, b api.Num) api.Num { return sure(api.OpSub, a, b) }

// Mul tells the product.
func Mul(a, b api.Num) api.Num { return sure(api.OpMul, a, b) }

// Conj tells the number with its second part's sign turned.
func Conj(a api.Num) api.Num { return sure(api.OpConj, a, api.Num{}) }

// Op tells what the operation op makes of a and b.
func Op(op int, a, b api.Num) (api.Num, api.Errno) {
	x, y := plane(a), plane(b)
	switch op {
	case api.OpAtom:
		goto told
	case api.OpAdd:
		goto add
	case api.OpSub:
		goto sub
	case api.OpMul:
		goto mul
	case api.OpConj:
		goto conj
	}
	return api.Num{}, api.ErrKind
add:
	x += y
	goto told
sub:
	x -= y
	goto told
mul:
	x *= y
	goto told
conj:
	x = complex(real(x), -imag(x))
told:
	return Of(int(real(x)), int(imag(x))), api.OK
}

// Text tells a number's digits, in parentheses if it has a second part.
func Text(a api.Num) string {
	a = Of(a.Re, a.Im)
	if a.Im == 0 {
		return strconv.Itoa(a.Re)
	}
	return "(" + strconv.Itoa(a.Re) + "," + strconv.Itoa(a.Im) + ")"
}

// Word tells a number as 32 bits of a word.
func Word(a api.Num) uint64 {
	return uint64(uint16(a.Re)) + uint64(uint16(a.Im))<<16
}

// Unword tells the number whose Word w is, if there is one.
func Unword(w uint64) (api.Num, bool) {
	if w >= 1<<32 {
		return api.Num{}, false
	}
	return Of(int(uint16(w)), int(uint16(w>>16))), true
}

// sure is Op of an operation that there is.
func sure(op int, a, b api.Num) api.Num {
	n, _ := Op(op, a, b)
	return n
}

// plane tells the complex number of wrapped parts: products of these stay
// below 2^31, so that a float reckons them exactly.
func plane(a api.Num) complex128 {
	return complex(float64(Wrap(a.Re)), float64(Wrap(a.Im)))
}
