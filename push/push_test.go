package push

import (
	"math"
	"math/big"
	"testing"

	"maquette/api"
	"maquette/calc"
)

const (
	one    = api.One
	most   = api.Fix(math.MaxInt64)
	lowest = api.Fix(math.MinInt64)

	// light is the Lightness of the least Mass that has one.
	light = api.Fix(6148914691236517205)

	// Of a way of 3 and 4 the parts of its direction, without what is behind the bits.
	part3 = api.Fix(2576980377)
	part4 = api.Fix(3435973836)
)

func v(x, y api.Fix) api.Vec { return api.Vec{X: x, Y: y} }

// body is one whose Shape and Size, which no push looks at, are at hand, and are none that may be.
func body(mass api.Fix, pos, mom api.Vec) api.Body {
	return api.Body{Shape: 77, Size: v(most, lowest), Mass: mass, Pos: pos, Mom: mom}
}

// at is a body that rests, moving one that does not lie anywhere in particular.
func at(mass api.Fix, pos api.Vec) api.Body { return body(mass, pos, v(0, 0)) }

func moving(mass api.Fix, mom api.Vec) api.Body { return body(mass, v(0, 0), mom) }

// with is a body of another Pos and another Mom, all else being the same.
func with(b api.Body, pos, mom api.Vec) api.Body {
	b.Pos, b.Mom = pos, mom
	return b
}

func hit(x, y, depth api.Fix) api.Hit { return api.Hit{Normal: v(x, y), Depth: depth} }

// pusher is one of the three calls, with all but its bodies given.
type pusher struct {
	name string
	do   func(a, b api.Body) (api.Body, api.Body)
}

func contact(h api.Hit) pusher {
	return pusher{"Contact", func(a, b api.Body) (api.Body, api.Body) { return Contact(a, b, h) }}
}

func joint(length api.Fix) pusher {
	return pusher{"Joint", func(a, b api.Body) (api.Body, api.Body) { return Joint(a, b, length) }}
}

func apply(j api.Vec) pusher {
	return pusher{"Apply", func(a, b api.Body) (api.Body, api.Body) { return Apply(a, b, j) }}
}

// thrown is what f panics with; nil, if it does not.
func thrown(f func()) (p any) {
	defer func() { p = recover() }()
	f()
	return nil
}

// check holds both bodies that p answers, whole, against what is wanted; a panic is no answer.
func check(t *testing.T, p pusher, a, b, wantA, wantB api.Body) {
	t.Helper()
	var gotA, gotB api.Body
	panicked := thrown(func() { gotA, gotB = p.do(a, b) })
	if panicked != nil || gotA != wantA || gotB != wantB {
		t.Errorf("%s of %d and %d: %d and %d, panic %v, not %d and %d", p.name, a, b, gotA, gotB, panicked, wantA, wantB)
	}
}

// checkMoms wants that both Mom become these, and nothing else is turned.
func checkMoms(t *testing.T, p pusher, a, b api.Body, momA, momB api.Vec) {
	t.Helper()
	check(t, p, a, b, with(a, a.Pos, momA), with(b, b.Pos, momB))
}

// checkPlaces wants that both Pos become these, and nothing else is turned.
func checkPlaces(t *testing.T, p pusher, a, b api.Body, posA, posB api.Vec) {
	t.Helper()
	check(t, p, a, b, with(a, posA, a.Mom), with(b, posB, b.Mom))
}

// checkNothing wants that both stay as they are.
func checkNothing(t *testing.T, p pusher, a, b api.Body) {
	t.Helper()
	check(t, p, a, b, a, b)
}

// checkOver wants that p panics with a Fault ErrOver, which calc.Try catches.
func checkOver(t *testing.T, p pusher, a, b api.Body) {
	t.Helper()
	f := func() { p.do(a, b) }
	if panicked := thrown(f); panicked != (calc.Fault{Errno: api.ErrOver}) {
		t.Errorf("%s of %d and %d: panic %v, not a Fault ErrOver", p.name, a, b, panicked)
		return
	}
	if err := calc.Try(f); err != api.ErrOver {
		t.Errorf("%s of %d and %d: Try: %d", p.name, a, b, err)
	}
}

func TestP1101Apply(t *testing.T) {
	a, b := body(one, v(9, -8), v(5, 5)), body(2*one, v(-7, 6), v(7, 7))
	checkMoms(t, apply(v(3, -1)), a, b, v(2, 6), v(10, 6))
	checkMoms(t, apply(v(-3, 1)), a, b, v(8, 4), v(4, 8))
	checkMoms(t, apply(v(3, -1)), b, a, v(4, 8), v(8, 4))
	checkMoms(t, apply(v(one, 0)), at(one, v(0, 0)), at(one, v(0, 0)), v(-one, 0), v(one, 0))
	checkMoms(t, apply(v(0, one)), at(one, v(0, 0)), at(one, v(0, 0)), v(0, -one), v(0, one))
	checkNothing(t, apply(v(0, 0)), a, b)
	// How great a Mass is counts for nothing, nor where the bodies are.
	for _, mass := range []api.Fix{1, 2, -1, one / 64, -one, most, lowest} {
		checkMoms(t, apply(v(3, -1)), body(mass, v(most, lowest), v(5, 5)), body(mass, v(lowest, most), v(7, 7)), v(2, 6), v(10, 6))
	}
}

func TestP1101ApplyOfNoMass(t *testing.T) {
	still, free := body(0, v(1, 2), v(5, 6)), body(one, v(3, 4), v(7, 8))
	checkMoms(t, apply(v(3, -1)), still, free, v(5, 6), v(10, 7))
	checkMoms(t, apply(v(3, -1)), free, still, v(4, 9), v(5, 6))
	checkNothing(t, apply(v(3, -1)), still, still)
	checkNothing(t, apply(v(most, lowest)), still, body(0, v(0, 0), v(most, lowest)))
	checkNothing(t, apply(v(1, 1)), body(0, v(0, 0), v(most, lowest)), body(0, v(0, 0), v(most, most)))
}

func TestP1101ApplyAtTheEnds(t *testing.T) {
	free, still := moving(one, v(0, 0)), moving(0, v(0, 0))
	for _, c := range []struct{ mom, j, want api.Vec }{
		{v(most-1, 0), v(-1, 0), v(most, 0)},
		{v(0, lowest+1), v(0, 1), v(0, lowest)},
		{v(-1, -1), v(lowest, lowest), v(most, most)},
		{v(lowest, lowest), v(lowest, 0), v(0, lowest)},
	} {
		checkMoms(t, apply(c.j), moving(one, c.mom), still, c.want, v(0, 0))
	}
	for _, c := range []struct{ mom, j, want api.Vec }{
		{v(most-1, 0), v(1, 0), v(most, 0)},
		{v(0, lowest+1), v(0, -1), v(0, lowest)},
		{v(0, 0), v(lowest, most), v(lowest, most)},
		{v(most, -1), v(lowest, most), v(-1, most-1)},
	} {
		checkMoms(t, apply(c.j), still, moving(one, c.mom), v(0, 0), c.want)
	}
	checkOver(t, apply(v(-1, 0)), moving(one, v(most, 0)), still)
	checkOver(t, apply(v(0, -1)), moving(one, v(0, most)), still)
	checkOver(t, apply(v(1, 0)), moving(one, v(lowest, 0)), still)
	checkOver(t, apply(v(0, lowest)), free, still)
	checkOver(t, apply(v(lowest, 0)), free, still)
	checkOver(t, apply(v(1, 0)), still, moving(one, v(most, 0)))
	checkOver(t, apply(v(0, 1)), still, moving(one, v(0, most)))
	checkOver(t, apply(v(-1, 0)), still, moving(one, v(lowest, 0)))
	checkOver(t, apply(v(0, -1)), still, moving(one, v(0, lowest)))
	// One of both is enough.
	checkOver(t, apply(v(1, 0)), free, moving(one, v(most, 0)))
	checkOver(t, apply(v(-1, 0)), moving(one, v(most, 0)), free)
}

// They go towards one another, and a half of that comes back; they are put a half of Depth apart.
func TestP1101ContactBelowZero(t *testing.T) {
	h := hit(one, 0, one)
	check(t, contact(h), body(one, v(0, 0), v(2*one, 0)), at(one, v(one, 0)), body(one, v(-one/4, 0), v(one/2, 0)), body(one, v(one+one/4, 0), v(3*one/2, 0)))
	check(t, contact(h), at(one, v(0, 0)), body(one, v(one, 0), v(-2*one, 9)), body(one, v(-one/4, 0), v(-3*one/2, 0)), body(one, v(one+one/4, 0), v(-one/2, 9)))
	check(t, contact(hit(0, -one, one)), body(one, v(5, 0), v(8, -2*one)), at(one, v(6, 0)), body(one, v(5, one/4), v(8, -one/2)), body(one, v(6, -one/4), v(0, -3*one/2)))
	// Of Masses 1 and 3 the lighter one goes three times as far; Mom counts by its Mass.
	check(t, contact(hit(one, 0, 8*one)), body(one, v(0, 0), v(4*one, 0)), at(3*one, v(one, 0)),
		body(one, v(-3*one, 0), v(-one/2-1, 0)), body(3*one, v(2*one-1, 0), v(9*one/2+1, 0)))
	// Across the direction nothing is pushed.
	check(t, contact(hit(one, 0, 0)), moving(one, v(2*one, 5)), moving(one, v(0, -7)), moving(one, v(one/2, 5)), moving(one, v(3*one/2, -7)))
}

func TestP1101ContactAlongASlope(t *testing.T) {
	// v is 0 less part3 and part4: 6012954213, j that and its lesser half: 9019431319.
	const x, y = 5411658790, 7215545053
	checkMoms(t, contact(hit(part3, part4, 0)), moving(one, v(one, one)), moving(0, v(0, 0)), v(one-x, one-y), v(0, 0))
	checkMoms(t, contact(hit(part3, part4, 0)), moving(0, v(0, 0)), moving(one, v(-one, -one)), v(0, 0), v(x-one, y-one))
	checkPlaces(t, contact(hit(part3, part4, 20)), at(one, v(0, 0)), at(0, v(9, 9)), v(-5, -7), v(9, 9))
	checkPlaces(t, contact(hit(part3, part4, 20)), at(0, v(9, 9)), at(one, v(0, 0)), v(9, 9), v(5, 7))
}

// Just as fast as one another, or going apart: no Mom is turned, but places are.
func TestP1101ContactNotBelowZero(t *testing.T) {
	for _, c := range []struct{ momA, momB, normal api.Vec }{
		{v(0, 0), v(0, 0), v(one, 0)},
		{v(3*one, 0), v(3*one, 0), v(one, 0)},
		{v(0, 7), v(0, -7), v(one, 0)},
		{v(0, 0), v(1, 0), v(one, 0)},
		{v(0, 0), v(2*one, 0), v(one, 0)},
		{v(-2*one, 0), v(2*one, 0), v(one, 0)},
		{v(5, 2*one), v(-5, one), v(0, -one)},
		{v(2*one, 2*one), v(0, 0), v(0, 0)},
	} {
		x, y := c.normal.X/4, c.normal.Y/4
		a, b := body(one, v(10, 20), c.momA), body(one, v(30, 40), c.momB)
		checkPlaces(t, contact(api.Hit{Normal: c.normal, Depth: one}), a, b, v(10-x, 20-y), v(30+x, 40+y))
	}
	// One bit below 0 there is a push, of one bit: its half is 0.
	checkMoms(t, contact(hit(one, 0, 0)), moving(one, v(1, 0)), moving(0, v(0, 0)), v(0, 0), v(0, 0))
	checkMoms(t, contact(hit(one, 0, 0)), moving(0, v(0, 0)), moving(one, v(-1, 0)), v(0, 0), v(0, 0))
}

// v shared by 2 goes towards 0: what a wall gives back of an odd one is the lesser half.
func TestP1101ContactOfAnOddSpeed(t *testing.T) {
	for _, c := range []struct{ mom, want api.Fix }{{1, 0}, {2, -1}, {3, -1}, {4, -2}, {5, -2}, {7, -3}, {one + 1, -one / 2}, {one - 1, -one/2 + 1}} {
		checkMoms(t, contact(hit(one, 0, 0)), moving(one, v(c.mom, 9)), moving(0, v(0, 0)), v(c.want, 9), v(0, 0))
		checkMoms(t, contact(hit(-one, 0, 0)), moving(one, v(-c.mom, 9)), moving(0, v(0, 0)), v(-c.want, 9), v(0, 0))
		checkMoms(t, contact(hit(one, 0, 0)), moving(0, v(0, 0)), moving(one, v(-c.mom, 9)), v(0, 0), v(-c.want, 9))
		checkMoms(t, contact(hit(0, one, 0)), moving(one, v(9, c.mom)), moving(0, v(0, 0)), v(9, c.want), v(0, 0))
	}
}

// Depth is shared by 2 ahead of all else, towards 0.
func TestP1101ContactDepths(t *testing.T) {
	for _, c := range []struct{ depth, far api.Fix }{{0, 0}, {1, 0}, {2, 1}, {3, 1}, {7, 3}, {8, 4}, {one, one / 2}, {one + 1, one / 2}, {-1, 0}, {-2, -1}, {-7, -3}, {most, most / 2}, {lowest, lowest / 2}} {
		checkPlaces(t, contact(hit(one, 0, c.depth)), at(one, v(0, 5)), at(0, v(9, 9)), v(-c.far, 5), v(9, 9))
		checkPlaces(t, contact(hit(0, one, c.depth)), at(0, v(9, 9)), at(one, v(5, 0)), v(9, 9), v(5, c.far))
	}
	// Of two that are as heavy each has a half of what is left, towards 0.
	checkPlaces(t, contact(hit(one, 0, 7)), at(one, v(0, 0)), at(one, v(0, 0)), v(-1, 0), v(1, 0))
	checkPlaces(t, contact(hit(one, 0, 8)), at(one, v(0, 0)), at(one, v(0, 0)), v(-2, 0), v(2, 0))
	checkPlaces(t, contact(hit(one, 0, 3)), at(one, v(0, 0)), at(one, v(0, 0)), v(0, 0), v(0, 0))
	checkPlaces(t, contact(hit(one, 0, -8)), at(one, v(0, 0)), at(one, v(0, 0)), v(2, 0), v(-2, 0))
}

func TestP1101ContactOfNoMass(t *testing.T) {
	h := hit(one, 0, one)
	still := func(x api.Fix) api.Body { return body(0, v(x, 0), v(0, 0)) }
	check(t, contact(h), body(2*one, v(0, 0), v(2*one, 7)), still(one), body(2*one, v(-one/2, 0), v(-one, 7)), still(one))
	check(t, contact(h), still(0), body(2*one, v(one, 0), v(-4*one, 7)), still(0), body(2*one, v(one+one/2, 0), v(2*one, 7)))
	// Both have none: nothing, however great the contact is, and whatever Mom they have.
	for _, h := range []api.Hit{h, hit(most, most, most), hit(lowest, lowest, lowest), {}} {
		checkNothing(t, contact(h), still(0), still(one))
		checkNothing(t, contact(h), body(0, v(most, lowest), v(most, lowest)), body(0, v(lowest, most), v(lowest, most)))
	}
	// A Mom beside a Mass of 0 makes no speed.
	checkMoms(t, contact(hit(one, 0, 0)), body(0, v(0, 0), v(9*one, 9)), moving(one, v(0, 0)), v(9*one, 9), v(0, 0))
	checkMoms(t, contact(hit(one, 0, 0)), moving(one, v(0, 0)), body(0, v(0, 0), v(-9*one, 9)), v(0, 0), v(-9*one, 9))
}

// What has a Mass below 0 may not be, but is told all the same: both Lightness together may be 0 of such.
func TestP1101ContactOfMassesBelowZero(t *testing.T) {
	for _, mass := range []api.Fix{3, one, one / 64, 10_000 * one, most} {
		for _, h := range []api.Hit{hit(one, 0, one), hit(most, most, most), hit(lowest, lowest, lowest)} {
			checkNothing(t, contact(h), body(mass, v(0, 0), v(2*one, 0)), body(-mass, v(one, 0), v(2*one, 0)))
			checkNothing(t, contact(h), body(-mass, v(0, 0), v(2*one, 0)), body(mass, v(one, 0), v(-2*one, 0)))
		}
	}
	// Of Lightness -1 alone: c is as much below 0, and its product above it.
	check(t, contact(hit(one, 0, one)), body(-one, v(0, 0), v(-2*one, 0)), at(0, v(one, 0)), body(-one, v(-one/2, 0), v(one, 0)), at(0, v(one, 0)))
}

func TestP1101ContactFaults(t *testing.T) {
	rest, still := at(one, v(0, 0)), at(0, v(0, 0))
	zero := api.Hit{}
	// A Lightness, or both together.
	for _, mass := range []api.Fix{1, 2, -1} {
		for _, other := range []api.Body{rest, still} {
			checkOver(t, contact(zero), at(mass, v(0, 0)), other)
			checkOver(t, contact(zero), other, at(mass, v(0, 0)))
		}
	}
	checkOver(t, contact(zero), at(3, v(0, 0)), at(3, v(0, 0)))
	checkOver(t, contact(zero), at(-3, v(0, 0)), at(-3, v(0, 0)))
	checkNothing(t, contact(zero), at(3, v(0, 0)), at(7, v(0, 0)))
	checkNothing(t, contact(zero), at(3, v(0, 0)), still)
	checkNothing(t, contact(zero), at(-2, v(0, 0)), still)
	// A speed, also one across the direction, or that of one that goes away.
	for _, mom := range []api.Vec{v(most, 0), v(0, most), v(lowest, 0), v(0, lowest)} {
		checkOver(t, contact(zero), moving(one/2, mom), still)
		checkOver(t, contact(zero), still, moving(one/2, mom))
	}
	checkNothing(t, contact(zero), still, moving(one/2, v(most/2, lowest/2)))
	// The difference of both.
	checkOver(t, contact(zero), moving(one, v(most, 0)), moving(one, v(-2, 0)))
	checkOver(t, contact(zero), moving(one, v(0, lowest)), moving(one, v(0, 0)))
	checkOver(t, contact(zero), moving(one, v(0, -1)), moving(one, v(0, most)))
	checkNothing(t, contact(zero), moving(one, v(most, 0)), moving(one, v(-1, 0)))
	checkNothing(t, contact(zero), moving(one, v(0, -1)), moving(one, v(0, lowest)))
	// A product, or the sum of both.
	checkOver(t, contact(hit(2*one, 0, 0)), still, moving(one, v(most, 0)))
	checkOver(t, contact(hit(0, 2*one, 0)), still, moving(one, v(0, most)))
	checkOver(t, contact(hit(one, one, 0)), still, moving(one, v(most, 1)))
	checkOver(t, contact(hit(one, one, 0)), still, moving(3, v(-3<<30, -3<<30-3)))
	checkNothing(t, contact(hit(one, one, 0)), still, moving(one, v(most-1, 1)))
}

func TestP1101ContactFaultsOfThePush(t *testing.T) {
	rest, still := at(one, v(0, 0)), at(0, v(0, 0))
	// v and its half.
	const third = most / 3 * 2
	checkMoms(t, contact(hit(one, 0, 0)), still, moving(one, v(-third, 0)), v(0, 0), v(third/2, 0))
	checkOver(t, contact(hit(one, 0, 0)), still, moving(one, v(-third-2, 0)))
	checkOver(t, contact(hit(one, 0, 0)), still, moving(one, v(lowest, 0)))
	checkOver(t, contact(hit(one, 0, 0)), still, moving(3, v(-3<<30-3<<29, 0)))
	// Its quotient by k.
	checkOver(t, contact(hit(4*one, 0, 0)), at(8*one, v(0, 0)), moving(8*one, v(lowest, 0)))
	checkOver(t, contact(hit(0, -4*one, 0)), still, moving(8*one, v(0, most)))
	// The direction times that.
	checkOver(t, contact(hit(4*one, 0, 0)), still, moving(one, v(-most/6, 0)))
	checkOver(t, contact(hit(0, -4*one, 0)), still, moving(one, v(0, most/6)))
	checkOver(t, contact(hit(one/2, most, 0)), still, moving(one, v(-4*one, 0)))
	// What Apply does of it.
	checkOver(t, contact(hit(one, 1, 0)), rest, moving(one, v(-8*one, most)))
	checkOver(t, contact(hit(one, -one/4, 0)), moving(one, v(8*one, most)), moving(one, v(0, most)))
}

func TestP1101ContactFaultsOfThePlaces(t *testing.T) {
	heavy, still := at(4*one, v(0, 0)), at(0, v(0, 0))
	// Depth by k.
	checkOver(t, contact(hit(one, 0, most)), heavy, still)
	checkOver(t, contact(hit(one, 0, lowest)), still, heavy)
	checkOver(t, contact(hit(0, 0, most)), at(8*one, v(0, 0)), at(8*one, v(0, 0)))
	checkPlaces(t, contact(hit(one, 0, most)), at(2*one, v(0, 0)), still, v(-most/2, 0), v(0, 0))
	// That times a Lightness: k is near 0 where one is below it.
	lighter, below := at(one/2, v(0, 0)), at(-one/2-1, v(0, 0))
	checkOver(t, contact(hit(0, 0, 1<<33)), lighter, below)
	checkOver(t, contact(hit(0, 0, 1<<33)), below, lighter)
	checkNothing(t, contact(hit(0, 0, 1<<33-1)), lighter, below)
	checkNothing(t, contact(hit(0, 0, 1<<33-1)), below, lighter)
	// The direction times that.
	checkOver(t, contact(hit(most, 0, 6*one)), at(one, v(0, 0)), still)
	checkOver(t, contact(hit(0, most, 6*one)), still, at(one, v(0, 0)))
	checkOver(t, contact(hit(0, lowest, 6*one)), still, at(one, v(0, 0)))
	// A place.
	checkOver(t, contact(hit(one, 0, 2)), at(one, v(lowest, 0)), still)
	checkOver(t, contact(hit(0, -one, 2)), at(one, v(0, most)), still)
	checkOver(t, contact(hit(one, 0, 2)), still, at(one, v(most, 0)))
	checkOver(t, contact(hit(0, -one, 2)), still, at(one, v(0, lowest)))
	checkPlaces(t, contact(hit(one, 0, 2)), at(one, v(lowest+1, 0)), at(0, v(most, lowest)), v(lowest, 0), v(most, lowest))
	checkPlaces(t, contact(hit(0, one, 2)), at(0, v(most, lowest)), at(one, v(0, most-1)), v(most, lowest), v(0, most))
}

func TestP1102Joint(t *testing.T) {
	a := at(one, v(0, 0))
	// Too far apart, too near, and just as far as they may be.
	checkMoms(t, joint(one), a, at(one, v(3*one, 0)), v(8*one, 0), v(-8*one, 0))
	checkMoms(t, joint(3*one), a, at(one, v(0, one)), v(0, -8*one), v(0, 8*one))
	checkNothing(t, joint(3*one), a, at(one, v(0, 3*one)))
	checkMoms(t, joint(one), at(one, v(3*one, 7)), at(one, v(0, 7)), v(-8*one, 0), v(8*one, 0))
	checkMoms(t, joint(5*one), at(one, v(one, one)), at(one, v(4*one, 5*one)), v(0, 0), v(0, 0))
	checkMoms(t, joint(4*one), at(one, v(one, one)), at(one, v(4*one, 5*one)), v(4*part3, 4*part4), v(-4*part3, -4*part4))
	// A bit too much, a bit too little: eight bits, for both together.
	checkMoms(t, joint(9), a, at(one, v(10, 0)), v(4, 0), v(-4, 0))
	checkMoms(t, joint(11), a, at(one, v(10, 0)), v(-4, 0), v(4, 0))
	checkNothing(t, joint(10), a, at(one, v(10, 0)))
	checkMoms(t, joint(0), a, at(one, v(-2, 0)), v(-8, 0), v(8, 0))
	// A length below 0 is told as any other.
	checkMoms(t, joint(-1), a, at(one, v(10, 0)), v(44, 0), v(-44, 0))
	checkMoms(t, joint(-one), a, at(one, v(0, one)), v(0, 8*one), v(0, -8*one))
}

// What they go apart, or towards one another, is taken from them, and given.
func TestP1102JointOfMovingBodies(t *testing.T) {
	checkMoms(t, joint(one), moving(one, v(-one, 0)), body(one, v(one, 0), v(one, 5)), v(0, 0), v(0, 5))
	checkMoms(t, joint(one), moving(one, v(one, 0)), body(one, v(one, 0), v(-one, 5)), v(0, 0), v(0, 5))
	checkMoms(t, joint(one), moving(one, v(4, 6)), body(one, v(0, -one), v(-8, 10)), v(4, 8), v(-8, 8))
	checkMoms(t, joint(one), moving(one, v(3, 7)), body(one, v(one, 0), v(3, -7)), v(3, 7), v(3, -7))
	// Of Masses 2 and 2 speed is a half of Mom.
	checkMoms(t, joint(one), moving(2*one, v(0, 0)), body(2*one, v(one, 0), v(8*one, 0)), v(4*one, 0), v(4*one, 0))
	// Both: 8 of the way, and 2 of the speed.
	checkMoms(t, joint(one), moving(one, v(0, 0)), body(one, v(2*one, 0), v(2*one, 0)), v(5*one, 0), v(-3*one, 0))
	checkMoms(t, joint(2*one), moving(one, v(0, 0)), body(one, v(one, 0), v(2*one, 0)), v(-3*one, 0), v(5*one, 0))
	// The speed makes up for the way.
	checkNothing(t, joint(one), moving(one, v(0, 0)), body(one, v(2*one, 0), v(-8*one, 0)))
	// The quotient by k goes towards 0, on both sides of it.
	checkMoms(t, joint(one), moving(one, v(0, 0)), body(one, v(one, 0), v(3, 0)), v(1, 0), v(2, 0))
	checkMoms(t, joint(one), moving(one, v(0, 0)), body(one, v(one, 0), v(-3, 0)), v(-1, 0), v(-2, 0))
}

func TestP1102JointOfNoMass(t *testing.T) {
	still := at(0, v(0, 0))
	checkMoms(t, joint(one), still, at(4*one, v(2*one, 0)), v(0, 0), v(-32*one, 0))
	checkMoms(t, joint(one), at(4*one, v(2*one, 0)), still, v(-32*one, 0), v(0, 0))
	// Both have none, or both Lightness together are 0: nothing, however great the length.
	for _, length := range []api.Fix{0, one, -one, most, lowest} {
		checkNothing(t, joint(length), still, at(0, v(5, 0)))
		checkNothing(t, joint(length), body(0, v(0, 0), v(most, lowest)), body(0, v(most, 0), v(lowest, most)))
		checkNothing(t, joint(length), moving(one, v(5, 5)), body(-one, v(3, 4), v(7, 7)))
		checkNothing(t, joint(length), moving(-3, v(most, most)), body(3, v(3, 4), v(lowest, lowest)))
	}
	// A Mom beside a Mass of 0 makes no speed.
	checkNothing(t, joint(one), moving(0, v(9*one, 9)), at(one, v(one, 0)))
	checkNothing(t, joint(one), at(one, v(0, 0)), body(0, v(one, 0), v(9*one, 9)))
}

// At one place nothing is pulled, and nothing else is reckoned: neither a Lightness nor a speed nor a length that is too great.
func TestP1102JointAtOnePlace(t *testing.T) {
	for _, place := range []api.Vec{v(0, 0), v(1, 1), v(-3*one, 7*one), v(most, lowest), v(lowest, most)} {
		for _, mass := range []api.Fix{0, 1, 2, 3, -1, one, most, lowest} {
			for _, length := range []api.Fix{0, one, -one, most, lowest} {
				checkNothing(t, joint(length), body(mass, place, v(most, lowest)), body(mass, place, v(lowest, most)))
				checkNothing(t, joint(length), body(mass, place, v(9, 9)), body(one, place, v(0, 0)))
			}
		}
	}
	// A bit beside it all counts.
	checkMoms(t, joint(0), at(one, v(0, 0)), at(one, v(1, 0)), v(4, 0), v(-4, 0))
	checkOver(t, joint(0), at(1, v(0, 0)), at(one, v(1, 0)))
}

func TestP1102JointFaults(t *testing.T) {
	a, still := at(one, v(0, 0)), at(0, v(0, 0))
	// The way, or its length: ahead of k, which is 0 here.
	for _, way := range []struct{ from, to api.Vec }{
		{v(-2, 0), v(most, 0)}, {v(0, -2), v(0, most)}, {v(1, 0), v(lowest, 0)}, {v(0, lowest), v(0, 0)},
		{v(0, 0), v(most, most)}, {v(0, 0), v(lowest, 0)}, {v(0, 0), v(0, lowest)}, {v(0, 0), v(most, one)},
	} {
		for _, mass := range []api.Fix{0, 1, one} {
			checkOver(t, joint(most), at(mass, way.from), at(mass, way.to))
		}
	}
	checkNothing(t, joint(one), still, at(0, v(-most, 0)))
	checkNothing(t, joint(one), still, at(0, v(most, one-1)))
	// A Lightness, both together, a speed, their difference, a product, the sum of both.
	for _, mass := range []api.Fix{1, 2, -1} {
		checkOver(t, joint(5), at(mass, v(0, 0)), at(one, v(5, 0)))
		checkOver(t, joint(5), at(one, v(0, 0)), at(mass, v(5, 0)))
		checkOver(t, joint(5), still, at(mass, v(5, 0)))
	}
	checkOver(t, joint(5), at(3, v(0, 0)), at(3, v(5, 0)))
	checkNothing(t, joint(5), at(3, v(0, 0)), at(7, v(5, 0)))
	checkOver(t, joint(one), moving(one/2, v(0, most)), at(0, v(one, 0)))
	checkOver(t, joint(one), still, body(one/2, v(one, 0), v(0, most)))
	checkOver(t, joint(one), moving(one, v(0, most)), body(one, v(one, 0), v(0, -2)))
	checkOver(t, joint(one), moving(one, v(0, lowest)), at(one, v(one, 0)))
	checkNothing(t, joint(one), moving(one, v(0, most)), body(one, v(one, 0), v(0, -1)))
	checkOver(t, joint(5), still, body(3, v(3, 4), v(3<<30+3<<29, 3<<30+3<<29)))
	checkOver(t, joint(5), still, body(one, v(3, 4), v(most, most)))
	// The way less the length, in both directions.
	checkOver(t, joint(lowest), a, at(one, v(1, 0)))
	checkOver(t, joint(-most), a, at(one, v(1, 0)))
	checkOver(t, joint(-1), a, at(one, v(most, 0)))
}

func TestP1102JointFaultsOfThePush(t *testing.T) {
	a, still := at(one, v(0, 0)), at(0, v(0, 0))
	// Eight times that, and v.
	checkOver(t, joint(0), still, at(one, v(1<<60, 0)))
	checkOver(t, joint(1<<60+2), still, at(one, v(1, 0)))
	checkOver(t, joint(most), a, at(one, v(1, 0)))
	checkMoms(t, joint(0), still, at(one, v(1<<60-1, 0)), v(0, 0), v(-(1<<63-8), 0))
	checkOver(t, joint(0), still, body(one, v(1<<60-1, 0), v(8, 0)))
	checkOver(t, joint(1<<60), still, body(one, v(1, 0), v(-9, 0)))
	checkMoms(t, joint(0), still, body(one, v(1<<60-1, 0), v(7, 0)), v(0, 0), v(-(1<<63-1)+7, 0))
	// 0 less the least Fix, as the way has it, and as the speed does.
	checkOver(t, joint(1<<60+1), still, at(3, v(1, 0)))
	checkOver(t, joint(1), still, body(one, v(1, 0), v(lowest, 0)))
	checkMoms(t, joint(1<<60), still, body(one, v(1, 0), v(1, 0)), v(0, 0), v(1<<63-8, 0))
	// The quotient by k.
	checkMoms(t, joint(0), still, at(2*one, v(1<<59, 0)), v(0, 0), v(lowest, 0))
	checkOver(t, joint(0), still, at(2*one, v(1<<59+1, 0)))
	checkOver(t, joint(1<<59+1), still, at(2*one, v(1, 0)))
	checkOver(t, joint(0), at(4*one, v(0, 0)), at(4*one, v(1<<59+1, 0)))
	checkMoms(t, joint(0), still, at(2*one, v(1<<59-1, 0)), v(0, 0), v(-(1<<63-16), 0))
	// What Apply does of it: in X and in Y, of a and of b.
	checkOver(t, joint(one), body(one, v(0, 0), v(most, 0)), body(one, v(2*one, 0), v(most, 0)))
	checkOver(t, joint(one), body(one, v(0, 0), v(0, most)), body(one, v(0, 2*one), v(0, most)))
	checkOver(t, joint(one), body(one, v(0, 0), v(-most, 0)), body(one, v(2*one, 0), v(-most, 0)))
	checkOver(t, joint(one), body(one, v(0, 0), v(0, -most)), body(one, v(0, 2*one), v(0, -most)))
}

// exact reckons without a bound, and knows whether something on the way was no Fix.
type exact struct{ over bool }

func wide(a api.Fix) *big.Int { return big.NewInt(int64(a)) }

func (e *exact) fit(n *big.Int) *big.Int {
	e.over = e.over || !n.IsInt64()
	return n
}

func (e *exact) add(a, b *big.Int) *big.Int { return e.fit(new(big.Int).Add(a, b)) }
func (e *exact) sub(a, b *big.Int) *big.Int { return e.fit(new(big.Int).Sub(a, b)) }

func (e *exact) mul(a, b *big.Int) *big.Int {
	n := new(big.Int).Mul(a, b)
	return e.fit(n.Quo(n, wide(one)))
}

func (e *exact) div(a, b *big.Int) *big.Int {
	n := new(big.Int).Lsh(a, 32)
	return e.fit(n.Quo(n, b))
}

func half(a *big.Int) *big.Int { return new(big.Int).Quo(a, big.NewInt(2)) }

// pair is a direction, or a place, without a bound.
type pair struct{ x, y *big.Int }

func widePair(a api.Vec) pair { return pair{wide(a.X), wide(a.Y)} }

func (p pair) narrow() api.Vec { return v(api.Fix(p.x.Int64()), api.Fix(p.y.Int64())) }

func (e *exact) plus(a, b pair) pair            { return pair{e.add(a.x, b.x), e.add(a.y, b.y)} }
func (e *exact) less(a, b pair) pair            { return pair{e.sub(a.x, b.x), e.sub(a.y, b.y)} }
func (e *exact) times(a pair, k *big.Int) pair  { return pair{e.mul(a.x, k), e.mul(a.y, k)} }
func (e *exact) shared(a pair, k *big.Int) pair { return pair{e.div(a.x, k), e.div(a.y, k)} }

func (e *exact) lightness(b api.Body) *big.Int {
	if b.Mass == 0 {
		return new(big.Int)
	}
	return e.div(wide(one), wide(b.Mass))
}

func (e *exact) speed(b api.Body) pair {
	if b.Mass == 0 {
		return widePair(v(0, 0))
	}
	return e.shared(widePair(b.Mom), wide(b.Mass))
}

func (e *exact) parting(a, b api.Body, n pair) *big.Int {
	d := e.less(e.speed(b), e.speed(a))
	return e.add(e.mul(d.x, n.x), e.mul(d.y, n.y))
}

func (e *exact) apply(a, b api.Body, j pair) (api.Body, api.Body) {
	if a.Mass != 0 {
		a.Mom = e.less(widePair(a.Mom), j).narrow()
	}
	if b.Mass != 0 {
		b.Mom = e.plus(widePair(b.Mom), j).narrow()
	}
	return a, b
}

func (e *exact) contact(a, b api.Body, h api.Hit) (api.Body, api.Body) {
	n, p, q := widePair(h.Normal), e.lightness(a), e.lightness(b)
	k := e.add(p, q)
	if k.Sign() == 0 {
		return a, b
	}
	if s := e.parting(a, b, n); s.Sign() < 0 {
		a, b = e.apply(a, b, e.times(n, e.div(e.sub(new(big.Int), e.add(s, half(s))), k)))
	}
	c := e.div(half(wide(h.Depth)), k)
	a.Pos = e.less(widePair(a.Pos), e.times(n, e.mul(c, p))).narrow()
	b.Pos = e.plus(widePair(b.Pos), e.times(n, e.mul(c, q))).narrow()
	return a, b
}

func (e *exact) joint(a, b api.Body, length api.Fix) (api.Body, api.Body) {
	d := e.less(widePair(b.Pos), widePair(a.Pos))
	away := new(big.Int).Mul(d.x, d.x)
	away.Add(away, new(big.Int).Mul(d.y, d.y))
	away = e.fit(away.Sqrt(away))
	if away.Sign() == 0 {
		return a, b
	}
	n := e.shared(d, away)
	k := e.add(e.lightness(a), e.lightness(b))
	if k.Sign() == 0 {
		return a, b
	}
	s := e.mul(e.sub(away, wide(length)), wide(8*one))
	t := e.add(e.parting(a, b, n), s)
	return e.apply(a, b, e.times(n, e.div(e.sub(new(big.Int), t), k)))
}

// checkAsExact holds the three calls against what is reckoned without a bound; it tells how many did not panic.
func checkAsExact(t *testing.T, a, b api.Body, h api.Hit) (through int) {
	t.Helper()
	against := func(p pusher, f func(e *exact) (api.Body, api.Body)) {
		t.Helper()
		var e exact
		wantA, wantB := f(&e)
		if e.over {
			checkOver(t, p, a, b)
			return
		}
		check(t, p, a, b, wantA, wantB)
		through++
	}
	against(apply(h.Normal), func(e *exact) (api.Body, api.Body) { return e.apply(a, b, widePair(h.Normal)) })
	against(contact(h), func(e *exact) (api.Body, api.Body) { return e.contact(a, b, h) })
	against(joint(h.Depth), func(e *exact) (api.Body, api.Body) { return e.joint(a, b, h.Depth) })
	return through
}

// Small numbers, all of which go through.
func TestP1101P1102AsExact(t *testing.T) {
	masses := []api.Fix{0, one, 3 * one, one / 7, 5}
	for x := api.Fix(-3); x <= 3; x++ {
		for y := api.Fix(-3); y <= 3; y++ {
			for i := range api.Fix(9) {
				for _, p := range masses {
					for _, q := range masses {
						a := body(p, v(5, -2*one), v(7*i-20, x*y))
						b := body(q, v(5+x, y-2*one), v(x*i, 9-y))
						checkAsExact(t, a, b, hit(x*part3/3, y*part4/3, 3*i-2))
					}
				}
			}
		}
	}
}

// The ends of a Fix, and numbers between, as all that there is.
func TestP1101P1102AsExactAtTheEnds(t *testing.T) {
	l := []api.Fix{0, 1, -1, 3, -2, 7, one, -one, one / 64, -5 * one / 3, 1000 * one, light, most / 2, lowest / 2, most - 1, lowest + 1, most, lowest, 0, one, one + 1, -one - 1, 12345}
	seed := uint64(11)
	pick := func() api.Fix {
		seed = seed*6364136223846793005 + 1442695040888963407
		return l[seed>>33%uint64(len(l))]
	}
	through, all := 0, 0
	for range 40_000 {
		a := body(pick(), v(pick(), pick()), v(pick(), pick()))
		b := body(pick(), v(pick(), pick()), v(pick(), pick()))
		through += checkAsExact(t, a, b, hit(pick(), pick(), pick()))
		all += 3
	}
	if through < all/20 || through > all-all/20 {
		t.Errorf("%d of %d go through: one side is hardly asked", through, all)
	}
}

// sum is both Mom together, without a bound.
func sum(a, b api.Body) [2]string {
	add := func(p, q api.Fix) string { return new(big.Int).Add(wide(p), wide(q)).String() }
	return [2]string{add(a.Mom.X, b.Mom.X), add(a.Mom.Y, b.Mom.Y)}
}

// checkKept wants that p keeps the sum of both Mom; a panic answers nothing that could keep it. It tells whether a Mom was turned.
func checkKept(t *testing.T, p pusher, a, b api.Body) bool {
	t.Helper()
	var gotA, gotB api.Body
	if calc.Try(func() { gotA, gotB = p.do(a, b) }) != api.OK {
		return false
	}
	if sum(gotA, gotB) != sum(a, b) {
		t.Errorf("%s of %d and %d: %d and %d, whose Mom together are not the same", p.name, a, b, gotA, gotB)
	}
	return gotA.Mom != a.Mom
}

// Where both have a Mass, no bit of their Mom together is lost, of numbers that leave pieces behind the bits, too.
func TestP1103TheSumIsKept(t *testing.T) {
	seed := uint64(1103)
	pick := func(most api.Fix) api.Fix {
		seed = seed*6364136223846793005 + 1442695040888963407
		return api.Fix(seed>>1)%(2*most+1) - most
	}
	mass := func(most api.Fix) api.Fix { return one/64 + pick(most/2) + most/2 }
	turned := map[string]int{}
	for i := range 30_000 {
		far := []api.Fix{9, one, 100 * one, 10_000 * one, most / 9}[i%5]
		heavy := []api.Fix{one / 64, one, 10_000 * one}[i%3]
		a := body(mass(heavy), v(pick(far), pick(far)), v(pick(far), pick(far)))
		b := body(mass(heavy), v(pick(far), pick(far)), v(pick(far), pick(far)))
		h := hit(pick(one), pick(one), pick(far))
		for _, p := range []pusher{apply(v(pick(far), pick(far))), contact(h), joint(pick(far))} {
			if checkKept(t, p, a, b) {
				turned[p.name]++
			}
		}
	}
	for _, name := range []string{"Apply", "Contact", "Joint"} {
		if turned[name] < 3_000 {
			t.Errorf("%s: just %d turned a Mom", name, turned[name])
		}
	}
}

// Sums that are themselves no Fix are kept as well: nothing adds them.
func TestP1103SumsThatAreNoFix(t *testing.T) {
	a, b := body(one, v(0, 0), v(most, lowest)), body(one, v(one, 0), v(most-5, lowest))
	checkMoms(t, apply(v(5, 0)), a, b, v(most-5, lowest), v(most, lowest))
	checkMoms(t, contact(hit(one, 0, 0)), a, b, v(most-3, lowest), v(most-2, lowest))
	checkMoms(t, joint(one), a, b, v(most-2, lowest), v(most-3, lowest))
}

// Bodies are handed in as values; what a caller has of them stays as it was, after a panic, too.
func TestP1101P1102NothingIsWritten(t *testing.T) {
	l := []api.Body{
		body(one, v(0, 0), v(2*one, 0)), body(2*one, v(one, 0), v(-5, 7)), body(0, v(3, 4), v(0, 0)),
		body(1, v(5, 6), v(7, 8)), body(one, v(lowest, most), v(most, lowest)),
	}
	kept := append([]api.Body(nil), l...)
	for _, h := range []api.Hit{hit(one, 0, one), hit(most, lowest, most), hit(3, -4, 5)} {
		was := h
		for i := range l {
			for j := range l {
				calc.Try(func() { Apply(l[i], l[j], h.Normal) })
				calc.Try(func() { Contact(l[i], l[j], h) })
				calc.Try(func() { Joint(l[i], l[j], h.Depth) })
			}
		}
		if h != was {
			t.Errorf("%d was written: %d", was, h)
		}
	}
	for i := range l {
		if l[i] != kept[i] {
			t.Errorf("%d was written: %d", kept[i], l[i])
		}
	}
}
