package touch

import (
	"math"
	"math/big"
	"testing"

	"maquette/api"
	"maquette/calc"
)

const (
	one    = api.One
	most   = api.Fix(math.MaxInt64)
	lowest = api.Fix(math.MinInt64)

	// Of a way of 3 and 4 the parts of its direction, without what is behind the bits.
	part3 = api.Fix(2576980377)
	part4 = api.Fix(3435973836)
)

func v(x, y api.Fix) api.Vec { return api.Vec{X: x, Y: y} }

// body is one of which all that Hit must not look at is at hand, and is not 0.
func body(shape int, x, y, w, h api.Fix) api.Body {
	return api.Body{Shape: shape, Size: v(w, h), Mass: lowest, Pos: v(x, y), Mom: v(most, lowest)}
}

// ball has a Size.Y that counts for nothing.
func ball(x, y, r api.Fix) api.Body { return body(api.Ball, x, y, r, most) }

func crate(x, y, w, h api.Fix) api.Body { return body(api.Crate, x, y, w, h) }

// otherShapes are what is neither a Ball nor a Crate.
func otherShapes() []int {
	return []int{0, 3, -1, -2, 1<<32 + api.Ball, 1<<32 + api.Crate, math.MinInt, math.MaxInt}
}

// thrown is what f panics with; nil, if it does not.
func thrown(f func()) (p any) {
	defer func() { p = recover() }()
	f()
	return nil
}

// checkHit holds Hit against a contact; a panic is no answer.
func checkHit(t *testing.T, a, b api.Body, normal api.Vec, depth api.Fix) {
	t.Helper()
	var h api.Hit
	var ok bool
	p := thrown(func() { h, ok = Hit(a, b) })
	if want := (api.Hit{Normal: normal, Depth: depth}); p != nil || !ok || h != want {
		t.Errorf("Hit(%d, %d): %d, %v, panic %v, not %d", a, b, h, ok, p, want)
	}
}

// checkNone wants that they do not touch, and that all beside the false is 0.
func checkNone(t *testing.T, a, b api.Body) {
	t.Helper()
	var h api.Hit
	var ok bool
	if p := thrown(func() { h, ok = Hit(a, b) }); p != nil || ok || h != (api.Hit{}) {
		t.Errorf("Hit(%d, %d): %d, %v, panic %v, not that they do not touch", a, b, h, ok, p)
	}
}

// checkThrown wants that f panics with a Fault ErrOver, which calc.Try catches.
func checkThrown(t *testing.T, what string, f func()) {
	t.Helper()
	if p := thrown(f); p != (calc.Fault{Errno: api.ErrOver}) {
		t.Errorf("%s: panic %v, not a Fault ErrOver", what, p)
		return
	}
	if err := calc.Try(f); err != api.ErrOver {
		t.Errorf("%s: Try: %d", what, err)
	}
}

// checkOver wants that Hit panics.
func checkOver(t *testing.T, a, b api.Body) {
	t.Helper()
	if p := thrown(func() { Hit(a, b) }); p == nil {
		t.Errorf("Hit(%d, %d) does not panic", a, b)
	}
	checkThrown(t, "Hit", func() { Hit(a, b) })
}

func TestP1001Balls(t *testing.T) {
	checkHit(t, ball(0, 0, one), ball(one+one/2, 0, one), v(one, 0), one/2)
	checkHit(t, ball(0, 0, one), ball(-one-one/2, 0, one), v(-one, 0), one/2)
	checkHit(t, ball(0, 0, one), ball(0, one+one/2, one), v(0, one), one/2)
	checkHit(t, ball(0, 0, one), ball(0, -one, one), v(0, -one), one)
	checkHit(t, ball(0, 0, 3*one), ball(3*one, 4*one, 4*one), v(part3, part4), 2*one)
	checkHit(t, ball(0, 0, 3*one), ball(-3*one, 4*one, 4*one), v(-part3, part4), 2*one)
	checkHit(t, ball(7, -9, 3), ball(7-4, -9-3, 4), v(-part4, -part3), 2)
	checkHit(t, ball(0, 0, 1), ball(1, 0, 9), v(one, 0), 9)
	checkHit(t, ball(0, 0, 9), ball(1, 0, 1), v(one, 0), 9)
	checkNone(t, ball(0, 0, one), ball(5*one, 0, one))
	checkNone(t, ball(0, 0, one), ball(0, -5*one, one))
}

// As far apart as both radii they do not touch, a bit nearer they do.
func TestP1001BallsAtTheEdge(t *testing.T) {
	for _, r := range []api.Fix{1, 2, 7, one, 1000 * one, most / 2} {
		for _, s := range []api.Fix{1, 3, one, 999 * one, most / 2} {
			for _, sign := range []api.Fix{1, -1} {
				far := r + s
				checkNone(t, ball(0, 0, r), ball(sign*far, 0, s))
				checkNone(t, ball(0, 0, r), ball(0, sign*far, s))
				checkHit(t, ball(0, 0, r), ball(sign*(far-1), 0, s), v(sign*one, 0), 1)
				checkHit(t, ball(0, 0, r), ball(0, sign*(far-1), s), v(0, sign*one), 1)
				checkNone(t, ball(0, 0, r), ball(sign*(far+1), 0, s))
				checkNone(t, ball(0, 0, r), ball(0, sign*(far+1), s))
			}
		}
	}
	checkNone(t, ball(1, 2, 2), ball(4, 6, 3))
	checkHit(t, ball(1, 2, 3), ball(4, 6, 3), v(part3, part4), 1)
	checkNone(t, ball(1, 2, 2), ball(4, 6, 2))
	// The way of 5 and 5 is 7, and a piece behind the bits that does not count.
	checkHit(t, ball(0, 0, 4), ball(5, 5, 4), v(3067833782, 3067833782), 1)
	checkNone(t, ball(0, 0, 4), ball(5, 5, 3))
}

func TestP1001BallsAtOnePlace(t *testing.T) {
	for _, at := range []api.Vec{{}, v(5, 5), v(-3*one, 7*one), v(most, lowest), v(lowest, most)} {
		checkHit(t, ball(at.X, at.Y, one), ball(at.X, at.Y, 2*one), v(one, 0), 3*one)
		checkHit(t, ball(at.X, at.Y, 0), ball(at.X, at.Y, 1), v(one, 0), 1)
		checkHit(t, ball(at.X, at.Y, most), ball(at.X, at.Y, 0), v(one, 0), most)
		checkNone(t, ball(at.X, at.Y, 0), ball(at.X, at.Y, 0))
		checkNone(t, ball(at.X, at.Y, -3), ball(at.X, at.Y, 3))
		checkHit(t, ball(at.X, at.Y, -3), ball(at.X, at.Y, 4), v(one, 0), 1)
		checkNone(t, ball(at.X, at.Y, lowest), ball(at.X, at.Y, most))
	}
}

func TestP1001Crates(t *testing.T) {
	checkHit(t, crate(0, 0, 10, 20), crate(15, 5, 10, 10), v(one, 0), 5)
	checkHit(t, crate(0, 0, 10, 20), crate(-15, 5, 10, 10), v(-one, 0), 5)
	checkHit(t, crate(0, 0, 10, 20), crate(15, -5, 10, 10), v(one, 0), 5)
	checkHit(t, crate(0, 0, 10, 20), crate(-15, -5, 10, 10), v(-one, 0), 5)
	checkHit(t, crate(0, 0, 20, 10), crate(5, 15, 10, 10), v(0, one), 5)
	checkHit(t, crate(0, 0, 20, 10), crate(5, -15, 10, 10), v(0, -one), 5)
	checkHit(t, crate(0, 0, 20, 10), crate(-5, 15, 10, 10), v(0, one), 5)
	checkHit(t, crate(0, 0, 20, 10), crate(-5, -15, 10, 10), v(0, -one), 5)
	checkHit(t, crate(7*one, -9*one, one, 2*one), crate(8*one, -8*one, 3*one, one), v(0, one), 2*one)
	checkHit(t, crate(0, 0, 99, 99), crate(1, 2, 3, 4), v(one, 0), 101)
	checkHit(t, crate(0, 0, 99, 99), crate(1, -4, 3, 4), v(0, -one), 99)
	checkNone(t, crate(0, 0, 10, 10), crate(30, 5, 10, 10))
	checkNone(t, crate(0, 0, 10, 10), crate(5, 30, 10, 10))
	checkNone(t, crate(0, 0, 10, 10), crate(30, 30, 10, 10))
}

// An overlap of 0 is none, in X as in Y; one of a bit is one.
func TestP1001CratesAtTheEdge(t *testing.T) {
	for _, sign := range []api.Fix{1, -1} {
		checkNone(t, crate(0, 0, 10, 10), crate(20*sign, 0, 10, 10))
		checkNone(t, crate(0, 0, 10, 10), crate(0, 20*sign, 10, 10))
		checkNone(t, crate(0, 0, 10, 10), crate(20*sign, 20*sign, 10, 10))
		checkNone(t, crate(0, 0, 10, 10), crate(20*sign, -20*sign, 10, 10))
		checkNone(t, crate(0, 0, 10, 10), crate(21*sign, 0, 10, 10))
		checkNone(t, crate(0, 0, 10, 10), crate(0, 21*sign, 10, 10))
		checkHit(t, crate(0, 0, 10, 10), crate(19*sign, 0, 10, 10), v(sign*one, 0), 1)
		checkHit(t, crate(0, 0, 10, 10), crate(0, 19*sign, 10, 10), v(0, sign*one), 1)
		checkNone(t, crate(0, 0, 10, 10), crate(19*sign, 20*sign, 10, 10))
		checkNone(t, crate(0, 0, 10, 10), crate(20*sign, 19*sign, 10, 10))
		checkHit(t, crate(0, 0, 10, 10), crate(19*sign, 18*sign, 10, 10), v(sign*one, 0), 1)
		checkHit(t, crate(0, 0, 10, 10), crate(18*sign, 19*sign, 10, 10), v(0, sign*one), 1)
		checkHit(t, crate(0, 0, 0, 5), crate(0, sign, 1, 5), v(one, 0), 1)
		checkHit(t, crate(0, 0, 5, 0), crate(sign, 0, 5, 1), v(0, one), 1)
	}
	checkNone(t, crate(0, 0, 0, 5), crate(0, 0, 0, 5))
	checkNone(t, crate(0, 0, 5, 0), crate(0, 0, 5, 0))
	checkNone(t, crate(0, 0, -5, 5), crate(0, 0, 5, 5))
	checkNone(t, crate(0, 0, 5, 5), crate(0, 0, 5, -5))
	checkHit(t, crate(0, 0, -5, 5), crate(0, 0, 6, 5), v(one, 0), 1)
	checkHit(t, crate(0, 0, 5, 5), crate(0, -1, 5, -3), v(0, -one), 1)
}

// Where both overlaps are the same, X counts; a bit less in Y, and Y does.
func TestP1001CratesOfTheSameOverlap(t *testing.T) {
	for _, x := range []api.Fix{-5, 5} {
		for _, y := range []api.Fix{-5, 5} {
			checkHit(t, crate(0, 0, 10, 10), crate(x, y, 10, 10), v(x/5*one, 0), 15)
			checkHit(t, crate(0, 0, 10, 10), crate(x, y, 10, 9), v(0, y/5*one), 14)
			checkHit(t, crate(0, 0, 10, 10), crate(x, y, 9, 10), v(x/5*one, 0), 14)
			checkHit(t, crate(0, 0, 10, 10), crate(x, y, 10, 11), v(x/5*one, 0), 15)
			checkHit(t, crate(0, 0, 10, 10), crate(x, y, 11, 10), v(0, y/5*one), 15)
		}
	}
}

// Where d is 0 it is not below 0: One counts.
func TestP1001CratesInALine(t *testing.T) {
	checkHit(t, crate(0, 0, 10, 10), crate(0, 0, 10, 10), v(one, 0), 20)
	checkHit(t, crate(0, 0, 10, 9), crate(0, 0, 10, 9), v(0, one), 18)
	checkHit(t, crate(4, -3, 10, 10), crate(4, -8, 10, 90), v(one, 0), 20)
	checkHit(t, crate(4, -3, 10, 10), crate(-1, -3, 90, 10), v(0, one), 20)
	checkHit(t, crate(most, lowest, 3, 7), crate(most, lowest, 3, 7), v(one, 0), 6)
	checkHit(t, crate(lowest, most, 7, 3), crate(lowest, most, 7, 3), v(0, one), 6)
}

// If the overlap in X is not above 0, Y's is not reckoned: what would be too great there does no harm.
func TestP1001CratesWithoutY(t *testing.T) {
	for _, x := range []api.Fix{2, 9, -2, -9} {
		checkNone(t, crate(0, 0, 1, most), crate(x, 0, 1, 1))
		checkNone(t, crate(0, 0, 1, lowest), crate(x, 0, 1, -1))
		checkNone(t, crate(0, 0, 1, 1), crate(x, lowest, 1, 1))
		checkNone(t, crate(0, 0, 1, -2), crate(x, most, 1, -2))
	}
	for _, x := range []api.Fix{1, -1, 0} {
		checkOver(t, crate(0, 0, 1, most), crate(x, 0, 1, 1))
		checkOver(t, crate(0, 0, 1, lowest), crate(x, 0, 1, -1))
		checkOver(t, crate(0, 0, 1, 1), crate(x, lowest, 1, 1))
		checkOver(t, crate(0, 0, 1, -2), crate(x, most, 1, -2))
	}
}

// d stands ahead of all: if it is too great in Y, there is no asking about X.
func TestP1001CratesTooFarApart(t *testing.T) {
	for _, x := range []api.Fix{0, 1, 9, -9} {
		checkOver(t, crate(0, most, 1, 1), crate(x, -2, 1, 1))
		checkOver(t, crate(0, -2, 1, 1), crate(x, most, 1, 1))
		checkOver(t, crate(most, 0, 1, 1), crate(-2, x, 1, 1))
		checkOver(t, crate(-2, 0, 1, 1), crate(most, x, 1, 1))
	}
	checkOver(t, crate(lowest, 0, 1, 1), crate(most, 0, 1, 1))
	checkNone(t, crate(-1, 0, 1, 1), crate(most-1, 0, 1, 1))
	checkNone(t, crate(most, 0, 1, 1), crate(0, 0, 1, 1))
	checkNone(t, crate(0, -1, 1, 1), crate(0, most-1, 1, 1))
	checkNone(t, crate(0, most, 1, 1), crate(0, 0, 1, 1))
}

func TestP1001CratesFaults(t *testing.T) {
	for _, at := range []api.Fix{0, 5, -5, one} {
		checkOver(t, crate(0, 0, most, 1), crate(at, 0, 1, 1))
		checkOver(t, crate(0, 0, 1, 1), crate(at, 0, most, 1))
		checkOver(t, crate(0, 0, lowest, 1), crate(at, 0, -1, 1))
		checkOver(t, crate(0, 0, 2*one, most), crate(at, 0, 1, 1))
		checkOver(t, crate(0, 0, 2*one, 1), crate(at, 0, 1, most))
		checkOver(t, crate(0, 0, 2*one, -1), crate(at, 0, 1, lowest))
	}
	// 0 less the least Fix is none; nor is what is below 0, and so far apart.
	checkOver(t, crate(0, 0, 1, 1), crate(lowest, 0, 1, 1))
	checkOver(t, crate(0, 0, 1, 1), crate(0, lowest, 1, 1))
	checkOver(t, crate(0, 0, most, 1), crate(lowest, 0, 0, 1))
	checkOver(t, crate(0, 0, -1, 1), crate(most, 0, -1, 1))
	checkOver(t, crate(0, 0, -1, 1), crate(-most, 0, -1, 1))
	checkNone(t, crate(0, 0, -1, 1), crate(most, 0, 0, 1))
	checkNone(t, crate(0, 0, -1, 1), crate(-most, 0, 0, 1))
	checkHit(t, crate(0, 0, most, most), crate(0, -1, 0, 0), v(0, -one), most-1)
	checkHit(t, crate(0, 0, most, most), crate(-1, 0, 0, 0), v(-one, 0), most-1)
}

// checkBoth holds Hit of a Ball and a Crate against a contact, and of the Crate and the Ball against the same one turned around.
func checkBoth(t *testing.T, a, b api.Body, normal api.Vec, depth api.Fix) {
	t.Helper()
	checkHit(t, a, b, normal, depth)
	checkHit(t, b, a, v(-normal.X, -normal.Y), depth)
}

func checkBothNone(t *testing.T, a, b api.Body) {
	t.Helper()
	checkNone(t, a, b)
	checkNone(t, b, a)
}

func checkBothOver(t *testing.T, a, b api.Body) {
	t.Helper()
	checkOver(t, a, b)
	checkOver(t, b, a)
}

// The Ball's place is outside: beside an edge, or beyond a corner.
func TestP1001BallOutsideACrate(t *testing.T) {
	checkBoth(t, ball(0, 0, 10), crate(15, 0, 8, 8), v(one, 0), 3)
	checkBoth(t, ball(0, 0, 10), crate(-15, 0, 8, 8), v(-one, 0), 3)
	checkBoth(t, ball(0, 0, 10), crate(3, 15, 8, 8), v(0, one), 3)
	checkBoth(t, ball(0, 0, 10), crate(3, -15, 8, 8), v(0, -one), 3)
	checkBoth(t, ball(0, 0, 10), crate(15, 7, 8, 8), v(one, 0), 3)
	checkBoth(t, ball(0, 0, 10), crate(11, 12, 8, 8), v(part3, part4), 5)
	checkBoth(t, ball(0, 0, 10), crate(-11, 12, 8, 8), v(-part3, part4), 5)
	checkBoth(t, ball(0, 0, 10), crate(11, -12, 8, 8), v(part3, -part4), 5)
	checkBoth(t, ball(0, 0, 10), crate(-12, -11, 8, 8), v(-part4, -part3), 5)
	checkBoth(t, ball(7*one, -2*one, one), crate(9*one, -2*one, 3*one/2, one/2), v(one, 0), one/2)
	checkBothNone(t, ball(0, 0, 10), crate(30, 0, 8, 8))
	checkBothNone(t, ball(0, 0, 10), crate(0, -30, 8, 8))
	checkBothNone(t, ball(0, 0, 10), crate(17, 17, 8, 8))
}

func TestP1001BallAtTheEdgeOfACrate(t *testing.T) {
	for _, sign := range []api.Fix{1, -1} {
		checkBothNone(t, ball(0, 0, 10), crate(18*sign, 0, 8, 8))
		checkBothNone(t, ball(0, 0, 10), crate(0, 18*sign, 8, 8))
		checkBothNone(t, ball(0, 0, 10), crate(19*sign, 0, 8, 8))
		checkBothNone(t, ball(0, 0, 10), crate(0, 19*sign, 8, 8))
		checkBoth(t, ball(0, 0, 10), crate(17*sign, 0, 8, 8), v(sign*one, 0), 1)
		checkBoth(t, ball(0, 0, 10), crate(0, 17*sign, 8, 8), v(0, sign*one), 1)
		checkBothNone(t, ball(0, 0, 5), crate(11*sign, 12, 8, 8))
		checkBoth(t, ball(0, 0, 6), crate(11*sign, 12, 8, 8), v(sign*part3, part4), 1)
		checkBothNone(t, ball(0, 0, 4), crate(11*sign, 12, 8, 8))
		// A bit outside: the edge is what counts, not the way out of it.
		checkBoth(t, ball(0, 0, 10), crate(9*sign, 0, 8, 8), v(sign*one, 0), 9)
		checkBoth(t, ball(0, 0, 10), crate(0, 9*sign, 8, 8), v(0, sign*one), 9)
	}
}

// The Ball's place is at an edge, at a corner, or within: as two Crates.
func TestP1001BallWithinACrate(t *testing.T) {
	for _, sign := range []api.Fix{1, -1} {
		checkBoth(t, ball(0, 0, 10), crate(8*sign, 0, 8, 8), v(sign*one, 0), 10)
		checkBoth(t, ball(0, 0, 10), crate(0, 8*sign, 8, 8), v(0, sign*one), 10)
		checkBoth(t, ball(0, 0, 10), crate(8*sign, 8, 8, 8), v(sign*one, 0), 10)
		checkBoth(t, ball(0, 0, 10), crate(8*sign, -8, 8, 8), v(sign*one, 0), 10)
		checkBoth(t, ball(0, 0, 10), crate(8, 8*sign, 9, 8), v(0, sign*one), 10)
		checkBoth(t, ball(0, 0, 10), crate(3*sign, 1, 8, 9), v(sign*one, 0), 15)
		checkBoth(t, ball(0, 0, 10), crate(0, 5*sign, 99, 8), v(0, sign*one), 13)
		checkBoth(t, ball(7, -5, 1), crate(7+3*sign, -5, 8, 9), v(sign*one, 0), 6)
	}
	checkBoth(t, ball(0, 0, 10), crate(0, 0, 8, 8), v(one, 0), 18)
	checkBoth(t, ball(0, 0, 10), crate(0, 0, 8, 7), v(0, one), 17)
	checkBoth(t, ball(4, 4, one), crate(4, 4, 3*one, 2*one), v(0, one), 3*one)
}

// What the Ball's Size.Y holds counts for nothing, within the Crate, too.
func TestP1001BallOfAnySizeY(t *testing.T) {
	for _, y := range []api.Fix{0, 1, -1, 10, 99, -99, one, most, lowest} {
		a := body(api.Ball, 0, 0, 10, y)
		checkBoth(t, a, crate(15, 0, 8, 8), v(one, 0), 3)
		checkBoth(t, a, crate(3, 1, 8, 9), v(one, 0), 15)
		checkBoth(t, a, crate(0, -5, 99, 8), v(0, -one), 13)
		checkHit(t, a, body(api.Ball, 15, 0, 10, y), v(one, 0), 5)
		checkHit(t, a, body(api.Ball, 0, 0, 10, y), v(one, 0), 20)
	}
}

// A Ball of no size, or below it, touches just what it is deep enough in.
func TestP1001BallOfNoSize(t *testing.T) {
	for _, r := range []api.Fix{0, -1, -7} {
		checkBothNone(t, ball(0, 0, r), crate(9, 0, 8, 8))
		checkBoth(t, ball(0, 0, r), crate(0, 0, 8, 8), v(one, 0), 8+r)
	}
	checkBothNone(t, ball(0, 0, -8), crate(0, 0, 8, 8))
	checkBothNone(t, ball(0, 0, 0), crate(8, 0, 8, 8))
}

// A Crate of a size below 0 has a box that is turned inside out; Clamp says which side of it counts.
func TestP1001BallAndACrateInsideOut(t *testing.T) {
	checkBoth(t, ball(0, 0, 10), crate(0, 0, -3, 5), v(one, 0), 7)
	checkBoth(t, ball(0, 0, 10), crate(-3, 0, -3, 5), v(-one, 0), 4)
	checkBoth(t, ball(0, 0, 10), crate(0, 0, 5, -4), v(0, one), 6)
	checkBoth(t, ball(0, 0, 10), crate(0, 0, -3, -4), v(part3, part4), 5)
	checkBothNone(t, ball(0, 0, 5), crate(0, 0, -3, -4))
}

func TestP1001BallsFaults(t *testing.T) {
	checkOver(t, ball(most, 0, 1), ball(-1, 0, 1))
	checkOver(t, ball(0, most, 1), ball(0, -1, 1))
	checkOver(t, ball(-2, 0, 1), ball(most, 0, 1))
	checkOver(t, ball(0, lowest, 1), ball(0, 0, 1))
	checkOver(t, ball(lowest, 0, 1), ball(0, 0, 1))
	checkOver(t, ball(0, 0, 1), ball(lowest, 0, 1))
	checkOver(t, ball(0, 0, 1), ball(0, lowest, 1))
	checkOver(t, ball(0, 0, 1), ball(most, most, 1))
	checkOver(t, ball(0, 0, 1), ball(-most, most, 1))
	for _, at := range []api.Fix{0, 5, -5, one, most} {
		checkOver(t, ball(0, 0, most), ball(at, 0, 1))
		checkOver(t, ball(0, 0, 1), ball(at, 0, most))
		checkOver(t, ball(0, 0, lowest), ball(0, at, -1))
	}
	checkOver(t, ball(0, 0, -1), ball(most, 0, -1))
	checkOver(t, ball(0, 0, lowest), ball(1, 0, 0))
	checkNone(t, ball(0, 0, -1), ball(most, 0, 0))
	checkNone(t, ball(0, 0, 1), ball(most, 0, 1))
	checkNone(t, ball(-1, 0, 1), ball(most-1, 0, 1))
	checkHit(t, ball(0, 0, most), ball(0, -most+1, 0), v(0, -one), 1)
}

func TestP1001BallAndCrateFaults(t *testing.T) {
	// The Crate's box is too great, however far the Ball lies.
	for _, x := range []api.Fix{0, most, lowest, 5 * one} {
		checkBothOver(t, ball(x, 0, 1), crate(most, 0, 5, 5))
		checkBothOver(t, ball(x, 0, 1), crate(0, most, 5, 5))
		checkBothOver(t, ball(x, 0, 1), crate(lowest, 0, 5, 5))
		checkBothOver(t, ball(x, 0, 1), crate(0, lowest, 5, 5))
		checkBothOver(t, ball(x, 0, 1), crate(2, 0, most, 5))
		checkBothOver(t, ball(x, 0, 1), crate(0, 0, 5, lowest))
	}
	// The way to the edge is too great, or its length.
	checkBothOver(t, ball(lowest, 0, 1), crate(9, 0, 5, 5))
	checkBothOver(t, ball(most, 0, 1), crate(-9, 0, 5, 5))
	checkBothOver(t, ball(0, lowest, 1), crate(0, 9, 5, 5))
	checkBothOver(t, ball(most, most, 1), crate(0, 0, 5, 5))
	checkBothOver(t, ball(lowest, 0, 1), crate(5, 0, 5, 5))
	checkBothNone(t, ball(lowest+1, 0, 1), crate(5, 0, 5, 5))
	// What is less the way is too great below 0.
	checkBothOver(t, ball(0, 0, lowest), crate(9, 0, 8, 8))
	checkBothNone(t, ball(0, 0, lowest+1), crate(9, 0, 8, 8))
	// Within it, both sizes together are too great: in X, or in Y alone, which counts just where X overlaps.
	checkBothOver(t, ball(0, 0, most), crate(0, 0, 1, 1))
	checkBothOver(t, ball(0, 0, most-1), crate(0, 0, 1, 2))
	checkBoth(t, ball(0, 0, most-1), crate(0, 0, 1, 1), v(one, 0), most)
	checkBoth(t, ball(0, 0, most-2), crate(0, 0, 2, 1), v(0, one), most-1)
	checkBothNone(t, ball(0, 0, lowest), crate(0, 0, 1, 1))
}

func TestP1001OtherShapes(t *testing.T) {
	known := []api.Body{ball(0, 0, 10), crate(0, 0, 10, 10), ball(most, lowest, most), crate(lowest, most, lowest, most)}
	for _, shape := range otherShapes() {
		odd, far := body(shape, 0, 0, 10, 10), body(shape, most, lowest, lowest, most)
		for _, b := range known {
			checkNone(t, odd, b)
			checkNone(t, b, odd)
			checkNone(t, far, b)
			checkNone(t, b, far)
		}
		for _, other := range otherShapes() {
			checkNone(t, odd, body(other, 0, 0, 10, 10))
			checkNone(t, far, body(other, 0, 0, 10, 10))
		}
	}
	checkNone(t, api.Body{}, api.Body{})
}

// checkFlip asks Flip, and, where nothing stands against it, once more.
func checkFlip(t *testing.T, h, want api.Hit) {
	t.Helper()
	for range 2 {
		var got api.Hit
		if p := thrown(func() { got = Flip(h) }); p != nil || got != want {
			t.Errorf("Flip(%d): %d, panic %v, not %d", h, got, p, want)
		}
		h, want = want, h
	}
}

func TestP1001Flip(t *testing.T) {
	l := []api.Fix{0, 1, -1, 3, -4, one, -one, part3, -part4, most, -most, lowest + 1}
	for _, x := range l {
		for _, y := range l {
			for _, depth := range []api.Fix{7, 0, -7, 1, most, lowest} {
				checkFlip(t, api.Hit{Normal: v(x, y), Depth: depth}, api.Hit{Normal: v(-x, -y), Depth: depth})
			}
		}
	}
	checkFlip(t, api.Hit{}, api.Hit{})
}

func TestP1001FlipFaults(t *testing.T) {
	for _, n := range []api.Vec{v(lowest, 0), v(0, lowest), v(lowest, lowest), v(lowest, most), v(-1, lowest)} {
		for _, depth := range []api.Fix{0, 5, most, lowest} {
			checkThrown(t, "Flip", func() { Flip(api.Hit{Normal: n, Depth: depth}) })
		}
	}
}

// exact reckons without a bound, and knows whether something on the way was no Fix.
type exact struct{ over bool }

func (e *exact) fit(n *big.Int) *big.Int {
	e.over = e.over || !n.IsInt64()
	return n
}

func (e *exact) add(a, b *big.Int) *big.Int { return e.fit(new(big.Int).Add(a, b)) }
func (e *exact) sub(a, b *big.Int) *big.Int { return e.fit(new(big.Int).Sub(a, b)) }

// unit is a direction's X and Y, and its length.
func (e *exact) unit(x, y *big.Int) (*big.Int, *big.Int, *big.Int) {
	n := new(big.Int).Mul(x, x)
	n.Add(n, new(big.Int).Mul(y, y))
	n = e.fit(n.Sqrt(n))
	if n.Sign() == 0 {
		return big.NewInt(0), big.NewInt(0), n
	}
	by := func(a *big.Int) *big.Int {
		a = new(big.Int).Lsh(a, 32)
		return e.fit(a.Quo(a, n))
	}
	return by(x), by(y), n
}

func wide(a api.Fix) *big.Int { return big.NewInt(int64(a)) }

// told is a contact out of numbers that fit.
func told(x, y, depth *big.Int) (api.Hit, bool) {
	if depth.Sign() <= 0 {
		return api.Hit{}, false
	}
	return api.Hit{Normal: v(api.Fix(x.Int64()), api.Fix(y.Int64())), Depth: api.Fix(depth.Int64())}, true
}

func (e *exact) balls(a, b api.Body) (api.Hit, bool) {
	x, y, n := e.unit(e.sub(wide(b.Pos.X), wide(a.Pos.X)), e.sub(wide(b.Pos.Y), wide(a.Pos.Y)))
	if n.Sign() == 0 {
		x = wide(one)
	}
	return told(x, y, e.sub(e.add(wide(a.Size.X), wide(b.Size.X)), n))
}

// crates is told sizes of its own for a: a Ball's are not those that it has.
func (e *exact) crates(a, b api.Body, w, h api.Fix) (api.Hit, bool) {
	dx, dy := e.sub(wide(b.Pos.X), wide(a.Pos.X)), e.sub(wide(b.Pos.Y), wide(a.Pos.Y))
	over := func(p, q api.Fix, d *big.Int) *big.Int {
		return e.sub(e.add(wide(p), wide(q)), e.fit(new(big.Int).Abs(d)))
	}
	side := func(d *big.Int) *big.Int {
		if d.Sign() < 0 {
			return wide(-one)
		}
		return wide(one)
	}
	x := over(w, b.Size.X, dx)
	if x.Sign() <= 0 {
		return api.Hit{}, false
	}
	if y := over(h, b.Size.Y, dy); y.Cmp(x) < 0 {
		return told(big.NewInt(0), side(dy), y)
	}
	return told(side(dx), big.NewInt(0), x)
}

func (e *exact) ballAndCrate(a, b api.Body) (api.Hit, bool) {
	away := func(at, pos, size api.Fix) *big.Int {
		low, high := e.sub(wide(pos), wide(size)), e.add(wide(pos), wide(size))
		switch p := wide(at); {
		case p.Cmp(low) < 0:
			return e.sub(low, p)
		case p.Cmp(high) > 0:
			return e.sub(high, p)
		}
		return big.NewInt(0)
	}
	x, y, n := e.unit(away(a.Pos.X, b.Pos.X, b.Size.X), away(a.Pos.Y, b.Pos.Y, b.Size.Y))
	if n.Sign() == 0 {
		return e.crates(a, b, a.Size.X, a.Size.X)
	}
	return told(x, y, e.sub(wide(a.Size.X), n))
}

// checkAsExact holds Hit, both ways round, against what is reckoned without a bound.
func checkAsExact(t *testing.T, a, b api.Body) {
	t.Helper()
	var e exact
	var h api.Hit
	var ok bool
	switch {
	case a.Shape == api.Crate && b.Shape == api.Ball:
		h, ok = e.ballAndCrate(b, a)
		h.Normal = v(-h.Normal.X, -h.Normal.Y)
	case a.Shape == api.Crate:
		h, ok = e.crates(a, b, a.Size.X, a.Size.Y)
	case b.Shape == api.Ball:
		h, ok = e.balls(a, b)
	default:
		h, ok = e.ballAndCrate(a, b)
	}
	switch {
	case e.over:
		checkOver(t, a, b)
	case ok:
		checkHit(t, a, b, h.Normal, h.Depth)
	default:
		checkNone(t, a, b)
	}
}

// Small bodies at all places around one another.
func TestP1001AsExact(t *testing.T) {
	shapes := []int{api.Ball, api.Crate}
	for x := api.Fix(-9); x <= 9; x++ {
		for y := api.Fix(-9); y <= 9; y++ {
			for i := range api.Fix(8) {
				for _, p := range shapes {
					for _, q := range shapes {
						checkAsExact(t, body(p, 3, -2, i-1, 4), body(q, 3+x, y-2, 3, i-2))
					}
				}
			}
		}
	}
}

// The ends of a Fix, and numbers between, as places and as sizes.
func TestP1001AsExactAtTheEnds(t *testing.T) {
	l := []api.Fix{0, 1, -1, 7, one, -one, -5 * one / 3, 1000 * one, most / 2, lowest / 2, most/2 + 1, most - 1, lowest + 1, most, lowest}
	at := func(i int) api.Fix { return l[i%len(l)] }
	for i := range l {
		for j := range l {
			for k := range l {
				for n := range 7 {
					a := [4]api.Fix{at(i), at(j + n), at(k), at(3*i + k + n)}
					b := [4]api.Fix{at(5*j + n), at(k + 2*n), at(i + j + 3*n), at(j + n)}
					for s := range 4 {
						checkAsExact(t, body(1+s%2, a[0], a[1], a[2], a[3]), body(1+s/2, b[0], b[1], b[2], b[3]))
					}
				}
			}
		}
	}
}

// Bodies are handed in as values; what a caller has of them stays as it was, after a panic, too.
func TestP1001NothingIsWritten(t *testing.T) {
	l := []api.Body{body(api.Ball, 0, 0, 10, 3), body(api.Crate, 3, 1, 8, 9), body(api.Ball, lowest, 0, 10, 3), body(3, 1, 2, 3, 4)}
	kept := append([]api.Body(nil), l...)
	for i := range l {
		for j := range l {
			calc.Try(func() { Hit(l[i], l[j]) })
		}
	}
	for i := range l {
		if l[i] != kept[i] {
			t.Errorf("%d was written: %d", kept[i], l[i])
		}
	}
	for _, n := range []api.Vec{v(3, -4), v(lowest, 5), v(5, lowest)} {
		h := api.Hit{Normal: n, Depth: 7}
		calc.Try(func() { Flip(h) })
		if h != (api.Hit{Normal: n, Depth: 7}) {
			t.Errorf("%d was written: %d", n, h)
		}
	}
}
