// Package fix has numbers of 32 bits behind the point.
package fix

import (
	"math/bits"

	"maquette/api"
)

// behind is how many bits of a Fix are behind the point.
const behind = 32

// least is how far below 0 a Fix can be: one more than above it.
const least = uint64(1) << 63

// Add adds.
func Add(a, b api.Fix) (api.Fix, api.Errno) {
	c := a + b
	// Only a sum of two of one sign can wrap round, and then it has the other one.
	if (a^c)&(b^c) < 0 {
		return 0, api.ErrOver
	}
	return c, api.OK
}

// Sub takes away.
func Sub(a, b api.Fix) (api.Fix, api.Errno) {
	c := a - b
	// Not by Add of Neg(b): -1 less the least Fix is a Fix, though that one's negative is none.
	if (a^b)&(a^c) < 0 {
		return 0, api.ErrOver
	}
	return c, api.OK
}

// Mul multiplies.
func Mul(a, b api.Fix) (api.Fix, api.Errno) {
	high, low := bits.Mul64(size(a), size(b))
	if high>>behind != 0 {
		return 0, api.ErrOver
	}
	return signed(high<<behind|low>>behind, (a < 0) != (b < 0))
}

// Div divides.
func Div(a, b api.Fix) (api.Fix, api.Errno) {
	if b == 0 {
		return 0, api.ErrZero
	}
	n, d := size(a), size(b)
	high, low := n>>behind, n<<behind
	// A quotient of more than 64 bits is no Fix, and bits.Div64 panics of it.
	if high >= d {
		return 0, api.ErrOver
	}
	q, _ := bits.Div64(high, low, d)
	return signed(q, (a < 0) != (b < 0))
}

// Neg turns the sign.
func Neg(a api.Fix) (api.Fix, api.Errno) { return Sub(0, a) }

// Of makes one of a whole number.
func Of(n int) (api.Fix, api.Errno) {
	a := api.Fix(n) << behind
	if a>>behind != api.Fix(n) {
		return 0, api.ErrOver
	}
	return a, api.OK
}

// Whole tells the whole number that is not above it.
func Whole(a api.Fix) int {
	// The shift of a negative number goes down, not towards 0.
	return int(a >> behind)
}

// size is a without its sign; products and quotients are reckoned of sizes, so that what is cut off goes towards 0.
func size(a api.Fix) uint64 {
	if a < 0 {
		// The least Fix wraps round to itself here, and that is its size.
		return uint64(-a)
	}
	return uint64(a)
}

// signed is the Fix of that size and sign.
func signed(n uint64, below bool) (api.Fix, api.Errno) {
	switch {
	case below && n <= least:
		return api.Fix(-n), api.OK
	case !below && n < least:
		return api.Fix(n), api.OK
	}
	return 0, api.ErrOver
}
