// Package num is layer 1: see shared/doc/01-num.md.
package num

import (
	"errors"
	"math"
	"strconv"
	"strings"

	"proctor/api"
)

// Add is a sum.
func Add(a, b int64) (int64, api.Errno) {
	s := a + b
	// A sum that has wrapped round lies on the wrong side of a.
	if (s > a) != (b > 0) {
		return 0, api.ErrOver
	}
	return s, api.OK
}

// Sub is a difference.
func Sub(a, b int64) (int64, api.Errno) {
	d := a - b
	// A difference that has wrapped round lies on the wrong side of a.
	if (d < a) != (b > 0) {
		return 0, api.ErrOver
	}
	return d, api.OK
}

// Neg is a number's other side.
func Neg(a int64) (int64, api.Errno) {
	if a == math.MinInt64 {
		return 0, api.ErrOver
	}
	return -a, api.OK
}

// Mul is a product.
func Mul(a, b int64) (int64, api.Errno) {
	switch b {
	case 0:
		return 0, api.OK
	case -1:
		// Dividing by -1 wraps round just where multiplying does, so it would find nothing.
		return Neg(a)
	}
	p := a * b
	// A product that has wrapped round is off by 2^64 or more: divided by b, it is not a.
	if p/b != a {
		return 0, api.ErrOver
	}
	return p, api.OK
}

// Div is a quotient. By way of Op, so that a divisor of 0 is refused in one place.
func Div(a, b int64) (int64, api.Errno) {
	return Op(api.OpDiv, a, b)
}

// Mod is what a division leaves. By way of Op, as Div is.
func Mod(a, b int64) (int64, api.Errno) {
	return Op(api.OpMod, a, b)
}

// Sum is the sum of numbers.
func Sum(l ...int64) (int64, api.Errno) {
	var sum int64
	for _, n := range l {
		s, e := Add(sum, n)
		if e != api.OK {
			return 0, e
		}
		sum = s
	}
	return sum, api.OK
}

// Op does what an operator says.
func Op(op int, a, b int64) (int64, api.Errno) {
	switch op {
	case api.OpNeg:
		return Neg(a)
	case api.OpDiv, api.OpMod:
		if b == 0 {
			return 0, api.ErrZero
		}
		fallthrough
	case api.OpAdd, api.OpSub, api.OpMul:
		return ofTwo(op, a, b)
	}
	return 0, api.ErrArg
}

// ofTwo does what an operator of two numbers says; a divisor is not 0.
func ofTwo(op int, a, b int64) (int64, api.Errno) {
	switch op {
	case api.OpAdd:
		return Add(a, b)
	case api.OpSub:
		return Sub(a, b)
	case api.OpMul:
		return Mul(a, b)
	case api.OpDiv:
		return quotient(a, b)
	}
	// Go's own % is toward 0, and 0 of -2^63 and -1.
	return a % b, api.OK
}

// quotient divides toward 0; b is not 0.
func quotient(a, b int64) (int64, api.Errno) {
	if b == -1 {
		return Neg(a)
	}
	return a / b, api.OK
}

// Text is a number's text.
func Text(n int64) string {
	return strconv.FormatInt(n, 10)
}

// Parse is a text's number.
func Parse(s string) (int64, api.Errno) {
	// The library reads more forms than there are (+1, 01, -0), so the form is looked at first.
	if !hasForm(s) {
		return 0, api.ErrForm
	}
	n, err := strconv.ParseInt(s, 10, 64)
	if errors.Is(err, strconv.ErrRange) {
		return 0, api.ErrRange
	}
	return n, api.OK
}

// hasForm tells whether a text is of the form of a number's text, however great that number.
func hasForm(s string) bool {
	digits := strings.TrimPrefix(s, "-")
	if digits == "" {
		return false
	}
	if digits[0] == '0' {
		return s == "0"
	}
	for i := range len(digits) {
		if digits[i] < '0' || digits[i] > '9' {
			return false
		}
	}
	return true
}
