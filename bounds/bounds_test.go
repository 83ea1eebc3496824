package bounds

import (
	"math"
	"math/big"
	"testing"

	"maquette/api"
	"maquette/calc"
)

const (
	one    = api.One
	most   = api.Fix(math.MaxInt64)
	lowest = api.Fix(math.MinInt64)
)

func v(x, y api.Fix) api.Vec { return api.Vec{X: x, Y: y} }

// box is one by its Low's X and Y, then its High's.
func box(a, b, c, d api.Fix) api.Box { return api.Box{Low: v(a, b), High: v(c, d)} }

// all is the greatest box, none the one that is turned inside out the farthest.
func all() api.Box  { return box(lowest, lowest, most, most) }
func none() api.Box { return box(most, most, lowest, lowest) }

// turned is a box with X and Y in each other's place.
func turned(b api.Box) api.Box { return box(b.Low.Y, b.Low.X, b.High.Y, b.High.X) }

// body is one of which all that Of must not look at is at hand, and is not 0.
func body(shape int, size, pos api.Vec) api.Body {
	return api.Body{Shape: shape, Size: size, Mass: -3, Pos: pos, Mom: v(most, lowest)}
}

// otherShapes are what is neither a Ball nor a Crate.
func otherShapes() []int {
	return []int{0, 3, -1, -2, 1<<32 + api.Ball, 1<<32 + api.Crate, math.MinInt, math.MaxInt}
}

// sized are the shapes that go as far as their Size says.
func sized() []int { return append(otherShapes(), api.Crate) }

// thrown is what f panics with; nil, if it does not.
func thrown(f func()) (p any) {
	defer func() { p = recover() }()
	f()
	return nil
}

// checkOf holds Of against a box; a panic is no answer.
func checkOf(t *testing.T, b api.Body, want api.Box) {
	t.Helper()
	var got api.Box
	if p := thrown(func() { got = Of(b) }); p != nil || got != want {
		t.Errorf("Of(%d): %d, panic %v, not %d", b, got, p, want)
	}
}

// checkOver wants that Of panics with a Fault ErrOver, which calc.Try catches.
func checkOver(t *testing.T, b api.Body) {
	t.Helper()
	f := func() { Of(b) }
	if p := thrown(f); p != (calc.Fault{Errno: api.ErrOver}) {
		t.Errorf("Of(%d): panic %v, not a Fault ErrOver", b, p)
		return
	}
	if err := calc.Try(f); err != api.ErrOver {
		t.Errorf("Of(%d): Try: %d", b, err)
	}
}

// checkMeet asks Meet both ways round, with X and Y as they are, and in each other's place.
func checkMeet(t *testing.T, a, b api.Box, want bool) {
	t.Helper()
	for range 2 {
		if Meet(a, b) != want {
			t.Errorf("Meet(%d, %d) is not %v", a, b, want)
		}
		if Meet(b, a) != want {
			t.Errorf("Meet(%d, %d) is not %v", b, a, want)
		}
		a, b = turned(a), turned(b)
	}
}

// checkBoth asks Both both ways round.
func checkBoth(t *testing.T, a, b, want api.Box) {
	t.Helper()
	if got := Both(a, b); got != want {
		t.Errorf("Both(%d, %d): %d, not %d", a, b, got, want)
	}
	if got := Both(b, a); got != want {
		t.Errorf("Both(%d, %d): %d, not %d", b, a, got, want)
	}
}

// checkIn holds In against what is wanted, for each of the places.
func checkIn(t *testing.T, b api.Box, want bool, places ...api.Vec) {
	t.Helper()
	for _, p := range places {
		if In(p, b) != want {
			t.Errorf("In(%d, %d) is not %v", p, b, want)
		}
	}
}

// checkClamp holds Clamp against a place.
func checkClamp(t *testing.T, p api.Vec, b api.Box, want api.Vec) {
	t.Helper()
	if got := Clamp(p, b); got != want {
		t.Errorf("Clamp(%d, %d): %d, not %d", p, b, got, want)
	}
}

func TestP801OfABall(t *testing.T) {
	checkOf(t, body(api.Ball, v(one, 0), v(0, 0)), box(-one, -one, one, one))
	checkOf(t, body(api.Ball, v(2*one, 0), v(5*one, -7*one)), box(3*one, -9*one, 7*one, -5*one))
	checkOf(t, body(api.Ball, v(5, 0), v(1, -2)), box(-4, -7, 6, 3))
	checkOf(t, body(api.Ball, v(0, 0), v(3, -4)), box(3, -4, 3, -4))
	checkOf(t, body(api.Ball, v(most, 0), v(0, 0)), box(-most, -most, most, most))
}

// A Ball's Size.Y counts for nothing, be it as great as it may.
func TestP801OfABallOfAnySizeY(t *testing.T) {
	for _, y := range []api.Fix{0, 1, -1, 5, 99, -5, one, 1000 * one, most, lowest} {
		checkOf(t, body(api.Ball, v(5, y), v(1, -2)), box(-4, -7, 6, 3))
		checkOf(t, body(api.Ball, v(0, y), v(most, lowest)), box(most, lowest, most, lowest))
		checkOver(t, body(api.Ball, v(2, y), v(0, most-1)))
	}
}

func TestP801OfACrateAndOthers(t *testing.T) {
	for _, shape := range sized() {
		checkOf(t, body(shape, v(one, 3*one), v(0, 0)), box(-one, -3*one, one, 3*one))
		checkOf(t, body(shape, v(2*one, 4*one), v(5*one, -7*one)), box(3*one, -11*one, 7*one, -3*one))
		checkOf(t, body(shape, v(5, 7), v(1, -2)), box(-4, -9, 6, 5))
		checkOf(t, body(shape, v(5, 0), v(1, -2)), box(-4, -2, 6, -2))
		checkOf(t, body(shape, v(0, 7), v(1, -2)), box(1, -9, 1, 5))
	}
	checkOf(t, api.Body{}, api.Box{})
}

// A Size below 0 turns the box inside out; Of does not mend it.
func TestP801OfASizeBelowZero(t *testing.T) {
	checkOf(t, body(api.Ball, v(-5, 7), v(1, -2)), box(6, 3, -4, -7))
	checkOf(t, body(api.Ball, v(-most, 0), v(0, -1)), box(most, most-1, -most, lowest))
	for _, shape := range sized() {
		checkOf(t, body(shape, v(-5, -7), v(1, -2)), box(6, 5, -4, -9))
		checkOf(t, body(shape, v(-5, 7), v(1, -2)), box(6, -9, -4, 5))
		checkOf(t, body(shape, v(5, -7), v(1, -2)), box(-4, 5, 6, -9))
	}
}

// The last bit that still fits, at each end of X and of Y.
func TestP801OfAtTheEnds(t *testing.T) {
	for _, r := range []api.Fix{0, 1, 5, one, 1000 * one} {
		checkOf(t, body(api.Ball, v(r, 0), v(lowest+r, most-r)), box(lowest, most-2*r, lowest+2*r, most))
		for _, shape := range sized() {
			checkOf(t, body(shape, v(r, 3), v(most-r, lowest+3)), box(most-2*r, lowest, most, lowest+6))
			checkOf(t, body(shape, v(3, r), v(lowest+3, most-r)), box(lowest, most-2*r, lowest+6, most))
		}
	}
	checkOf(t, body(api.Ball, v(most, 0), v(0, -1)), box(-most, lowest, most, most-1))
	checkOf(t, body(api.Crate, v(most, 0), v(-1, lowest)), box(lowest, lowest, most-1, lowest))
	checkOf(t, body(api.Crate, v(0, most), v(most, -1)), box(most, lowest, most, most-1))
}

func TestP801OfFaults(t *testing.T) {
	for _, r := range []api.Fix{1, 5, one, 1000 * one} {
		for _, shape := range append(sized(), api.Ball) {
			for _, far := range []api.Fix{lowest + r - 1, most - r + 1, lowest, most} {
				checkOver(t, body(shape, v(r, r), v(far, 0)))
				checkOver(t, body(shape, v(r, r), v(0, far)))
				checkOver(t, body(shape, v(-r, -r), v(far, 0)))
				checkOver(t, body(shape, v(-r, -r), v(0, far)))
			}
		}
		for _, shape := range sized() {
			checkOver(t, body(shape, v(r, 0), v(most, lowest)))
			checkOver(t, body(shape, v(0, r), v(most, lowest)))
		}
	}
}

// Of the least Fix as a Size one of the two sides never fits; of the greatest just from -1 to 0.
func TestP801OfFaultsOfTheGreatestSizes(t *testing.T) {
	for _, shape := range append(sized(), api.Ball) {
		for _, at := range []api.Fix{lowest, -one, -1, 0, 1, one, most} {
			checkOver(t, body(shape, v(lowest, 0), v(at, at)))
		}
		for _, at := range []api.Fix{lowest, -2, 1, most} {
			checkOver(t, body(shape, v(most, 0), v(at, 0)))
		}
	}
	for _, shape := range sized() {
		for _, at := range []api.Fix{lowest, -one, -1, 0, 1, one, most} {
			checkOver(t, body(shape, v(0, lowest), v(0, at)))
		}
		checkOver(t, body(shape, v(0, most), v(0, -2)))
		checkOver(t, body(shape, v(0, most), v(0, 1)))
	}
}

// numbers are the ends of a Fix, 0, and some between.
func numbers() []api.Fix {
	return []api.Fix{0, 1, -1, 7, one, -one, -5 * one / 3, 1000 * one, most / 2, most/2 + 1, lowest / 2, lowest/2 - 1, most - 1, lowest + 1, most, lowest}
}

// exact is one side of a box, without a bound, and whether it is a Fix.
func exact(pos, size api.Fix, sign int64) (api.Fix, bool) {
	n := new(big.Int).Mul(big.NewInt(sign), big.NewInt(int64(size)))
	n.Add(n, big.NewInt(int64(pos)))
	return api.Fix(n.Int64()), n.IsInt64()
}

func checkOfAsExact(t *testing.T, b api.Body, size api.Vec) {
	t.Helper()
	lowX, ok1 := exact(b.Pos.X, size.X, -1)
	lowY, ok2 := exact(b.Pos.Y, size.Y, -1)
	highX, ok3 := exact(b.Pos.X, size.X, 1)
	highY, ok4 := exact(b.Pos.Y, size.Y, 1)
	if ok1 && ok2 && ok3 && ok4 {
		checkOf(t, b, box(lowX, lowY, highX, highY))
	} else {
		checkOver(t, b)
	}
}

func TestP801OfAsExact(t *testing.T) {
	l := numbers()
	for _, x := range l {
		for _, y := range l {
			for i, w := range l {
				size := v(w, l[(3*i+5)%len(l)])
				checkOfAsExact(t, body(api.Ball, size, v(x, y)), v(w, w))
				checkOfAsExact(t, body(api.Crate, size, v(x, y)), size)
				checkOfAsExact(t, body(0, size, v(x, y)), size)
			}
		}
	}
}

func TestP801Meet(t *testing.T) {
	a := box(0, 0, 10, 20)
	for _, b := range []api.Box{
		a,
		box(3, 4, 5, 6), box(-9, -9, 99, 99), // one within the other
		box(5, 5, 15, 25), box(-5, -5, 5, 5), box(-5, 15, 5, 25), box(5, -5, 15, 5), // corners overlap
		box(-5, 5, 15, 6), box(4, -5, 5, 25), // a cross
		box(10, 3, 30, 9), box(-30, 3, 0, 9), box(3, 20, 9, 40), box(3, -40, 9, 0), // an edge alone
		box(10, 20, 30, 40), box(-5, -5, 0, 0), box(-5, 20, 0, 40), box(10, -5, 30, 0), // a corner alone
		box(5, 5, 5, 5), box(0, 0, 0, 0), box(10, 20, 10, 20), box(0, 20, 0, 20), // a place
		all(),
	} {
		checkMeet(t, a, b, true)
	}
}

func TestP801MeetNot(t *testing.T) {
	a := box(0, 0, 10, 20)
	for _, b := range []api.Box{
		box(11, 0, 30, 20), box(-30, 0, -1, 20), // a bit apart in X alone
		box(0, 21, 10, 40), box(0, -40, 10, -1), // a bit apart in Y alone
		box(11, 20, 30, 40), box(10, 21, 30, 40), box(-5, -5, -1, 0), box(-5, -5, 0, -1), // past a corner
		box(11, 21, 30, 40), box(-5, -5, -1, -1), box(-5, 21, -1, 40), box(11, -5, 30, -1),
		box(11, -9, 99, 99), box(-9, 21, 99, 99),
		box(11, 5, 11, 5), box(5, -1, 5, -1), // a place
		box(most, most, most, most), box(lowest, lowest, lowest, lowest),
	} {
		checkMeet(t, a, b, false)
	}
}

// What counts of a box that is turned inside out is the comparison alone.
func TestP801MeetInsideOut(t *testing.T) {
	a := box(0, 0, 10, 20)
	for _, b := range []api.Box{box(5, 5, 4, 4), box(10, 20, 0, 0), box(9, 5, 1, 15), box(1, 15, 9, 5)} {
		checkMeet(t, a, b, true)
	}
	for _, b := range []api.Box{box(11, 5, 4, 4), box(5, 21, 4, 4), box(5, 5, -1, 4), box(5, 5, 4, -1), box(20, 5, 4, 9), none()} {
		checkMeet(t, a, b, false)
	}
	for _, b := range []api.Box{box(5, 5, 4, 4), box(5, 5, 4, 6), box(5, 5, 6, 4), none()} {
		checkMeet(t, b, b, false)
	}
	checkMeet(t, all(), none(), true)
}

func TestP801MeetAtTheEnds(t *testing.T) {
	high, low := box(most, most, most, most), box(lowest, lowest, lowest, lowest)
	checkMeet(t, all(), all(), true)
	checkMeet(t, all(), high, true)
	checkMeet(t, all(), low, true)
	checkMeet(t, high, high, true)
	checkMeet(t, low, low, true)
	checkMeet(t, high, low, false)
	checkMeet(t, high, box(lowest, lowest, most-1, most), false)
	checkMeet(t, low, box(lowest+1, lowest, most, most), false)
}

func TestP801Both(t *testing.T) {
	checkBoth(t, box(0, 5, 10, 20), box(-3, 7, 4, 99), box(-3, 5, 10, 99))
	checkBoth(t, box(1, 2, 3, 4), box(1, 2, 3, 4), box(1, 2, 3, 4))
	checkBoth(t, box(0, 0, 10, 20), box(3, 4, 5, 6), box(0, 0, 10, 20))
	checkBoth(t, box(0, 1, 2, 3), box(10, 11, 12, 13), box(0, 1, 12, 13))
	checkBoth(t, box(0, 0, 0, 0), box(5, -7, 5, -7), box(0, -7, 5, 0))
	checkBoth(t, box(-one, -3*one, one, 3*one), box(-2*one, -2*one, 2*one, 2*one), box(-2*one, -3*one, 2*one, 3*one))
}

// Each side of the one box, in all mixtures, with the others of the other.
func TestP801BothEachSide(t *testing.T) {
	for i := range 16 {
		a, b := box(1, 2, 13, 14), box(1, 2, 13, 14)
		pick := func(bit int, x, y *api.Fix, far api.Fix) {
			if i&bit != 0 {
				x, y = y, x
			}
			*x += far
			*y += far / 2
		}
		pick(1, &a.Low.X, &b.Low.X, -4)
		pick(2, &a.Low.Y, &b.Low.Y, -6)
		pick(4, &a.High.X, &b.High.X, 8)
		pick(8, &a.High.Y, &b.High.Y, 10)
		checkBoth(t, a, b, box(-3, -4, 21, 24))
	}
}

// Low of Lows, High of Highs, however they stand to each other.
func TestP801BothInsideOut(t *testing.T) {
	checkBoth(t, box(9, 8, 1, 2), box(9, 8, 1, 2), box(9, 8, 1, 2))
	checkBoth(t, box(9, 8, 1, 2), box(7, 10, 0, 3), box(7, 8, 1, 3))
	checkBoth(t, box(9, 8, 1, 2), box(3, 4, 5, 6), box(3, 4, 5, 6))
	checkBoth(t, box(9, 8, 1, 2), box(20, 30, 40, 50), box(9, 8, 40, 50))
	checkBoth(t, box(9, 2, 1, 8), box(10, 3, 0, 7), box(9, 2, 1, 8))
	checkBoth(t, none(), box(3, 4, 5, 6), box(3, 4, 5, 6))
	checkBoth(t, none(), none(), none())
}

func TestP801BothAtTheEnds(t *testing.T) {
	checkBoth(t, all(), box(3, 4, 5, 6), all())
	checkBoth(t, all(), none(), all())
	checkBoth(t, box(most, most, most, most), box(lowest, lowest, lowest, lowest), all())
	checkBoth(t, box(lowest, 0, 1, 2), box(0, lowest, most, 1), box(lowest, lowest, most, 2))
	checkBoth(t, box(0, 1, 2, most), box(3, 4, most, 5), box(0, 1, most, most))
}

func TestP801In(t *testing.T) {
	b := box(-3, 5, 10, 20)
	checkIn(t, b, true, v(0, 7), v(9, 19), v(-2, 6))
	checkIn(t, b, true, v(-3, 7), v(10, 7), v(0, 5), v(0, 20))
	checkIn(t, b, true, v(-3, 5), v(-3, 20), v(10, 5), v(10, 20))
	checkIn(t, b, false, v(-4, 7), v(11, 7), v(0, 4), v(0, 21))
	checkIn(t, b, false, v(-4, 5), v(-3, 4), v(11, 20), v(10, 21), v(-4, 20), v(-3, 21), v(11, 5), v(10, 4))
	checkIn(t, b, false, v(-4, 4), v(11, 21), v(-4, 21), v(11, 4), v(7, 0), v(20, 10))
	checkIn(t, b, false, v(lowest, 7), v(most, 7), v(0, lowest), v(0, most), v(lowest, most))
	checkIn(t, box(4, 6, 4, 6), true, v(4, 6))
	checkIn(t, box(4, 6, 4, 6), false, v(3, 6), v(5, 6), v(4, 5), v(4, 7), v(6, 4))
}

// Nothing lies in a box that is turned inside out, be it in X alone, or in Y alone.
func TestP801InInsideOut(t *testing.T) {
	for _, b := range []api.Box{box(9, 9, 1, 1), box(9, 1, 1, 9), box(1, 9, 9, 1), box(5, 5, 4, 4), none()} {
		for x := api.Fix(-1); x <= 11; x++ {
			for y := api.Fix(-1); y <= 11; y++ {
				checkIn(t, b, false, v(x, y))
			}
		}
		checkIn(t, b, false, v(lowest, lowest), v(most, most), v(lowest, most), v(most, lowest))
	}
}

func TestP801InAtTheEnds(t *testing.T) {
	checkIn(t, all(), true, v(0, 0), v(lowest, lowest), v(most, most), v(lowest, most), v(most, lowest))
	checkIn(t, box(lowest+1, lowest, most, most), false, v(lowest, 0))
	checkIn(t, box(lowest, lowest+1, most, most), false, v(0, lowest))
	checkIn(t, box(lowest, lowest, most-1, most), false, v(most, 0))
	checkIn(t, box(lowest, lowest, most, most-1), false, v(0, most))
}

func TestP801Clamp(t *testing.T) {
	b := box(-3, 5, 10, 20)
	for _, p := range []api.Vec{v(0, 7), v(9, 19), v(-3, 7), v(10, 7), v(0, 5), v(0, 20), v(-3, 5), v(10, 20), v(-3, 20), v(10, 5)} {
		checkClamp(t, p, b, p)
	}
	for _, c := range []struct{ at, want api.Vec }{
		{v(-4, 7), v(-3, 7)}, {v(11, 7), v(10, 7)}, {v(0, 4), v(0, 5)}, {v(0, 21), v(0, 20)},
		{v(-99, 7), v(-3, 7)}, {v(99, 7), v(10, 7)}, {v(0, -99), v(0, 5)}, {v(0, 99), v(0, 20)},
		{v(-4, 4), v(-3, 5)}, {v(11, 21), v(10, 20)}, {v(-4, 21), v(-3, 20)}, {v(11, 4), v(10, 5)},
		{v(lowest, 7), v(-3, 7)}, {v(most, 7), v(10, 7)}, {v(0, lowest), v(0, 5)}, {v(0, most), v(0, 20)},
		{v(lowest, most), v(-3, 20)}, {v(most, lowest), v(10, 5)},
	} {
		checkClamp(t, c.at, b, c.want)
	}
	checkClamp(t, v(7, -7), box(4, 6, 4, 6), v(4, 6))
	checkClamp(t, v(4, 6), box(4, 6, 4, 6), v(4, 6))
}

// Below Low it is Low, even where that is above High, too; else above High it is High.
func TestP801ClampInsideOut(t *testing.T) {
	b := box(9, 8, 1, 2)
	for _, c := range []struct{ at, want api.Vec }{
		{v(0, 0), v(9, 8)}, {v(1, 2), v(9, 8)}, {v(5, 5), v(9, 8)}, {v(8, 7), v(9, 8)},
		{v(9, 8), v(1, 2)}, {v(10, 9), v(1, 2)}, {v(8, 8), v(9, 2)}, {v(9, 7), v(1, 8)},
		{v(lowest, most), v(9, 2)}, {v(most, lowest), v(1, 8)},
	} {
		checkClamp(t, c.at, b, c.want)
	}
	checkClamp(t, v(5, 5), box(9, 2, 1, 8), v(9, 5))
	checkClamp(t, v(5, 5), box(1, 8, 9, 2), v(5, 8))
	checkClamp(t, v(9, 5), box(9, 2, 1, 8), v(1, 5))
	checkClamp(t, v(5, 8), box(1, 8, 9, 2), v(5, 2))
}

func TestP801ClampAtTheEnds(t *testing.T) {
	for _, p := range []api.Vec{v(0, 0), v(lowest, lowest), v(most, most), v(lowest, most), v(most, lowest)} {
		checkClamp(t, p, all(), p)
		checkClamp(t, p, box(most, lowest, most, lowest), v(most, lowest))
		checkClamp(t, p, box(lowest, most, lowest, most), v(lowest, most))
	}
	checkClamp(t, v(0, 0), none(), v(most, most))
	checkClamp(t, v(most, most-1), none(), v(lowest, most))
	checkClamp(t, v(most-1, most), none(), v(most, lowest))
}

// What Meet, In and Clamp say of boxes that are not turned inside out is what going through all places says.
func TestP801AsCounted(t *testing.T) {
	var l []api.Box
	for i := range 81 {
		b := box(api.Fix(i%3), api.Fix(i/3%3), api.Fix(i/9%3), api.Fix(i/27))
		if b.Low.X <= b.High.X && b.Low.Y <= b.High.Y {
			l = append(l, b)
		}
	}
	for _, a := range l {
		for _, b := range l {
			common := false
			for _, p := range places(0, 2) {
				common = common || In(p, a) && In(p, b)
				if !In(p, Both(a, b)) && (In(p, a) || In(p, b)) {
					t.Errorf("Both(%d, %d) is without %d", a, b, p)
				}
			}
			checkMeet(t, a, b, common)
		}
		for _, p := range places(-1, 3) {
			checkNearest(t, p, a)
		}
	}
}

// places are all whose X and Y lie from low to high.
func places(low, high api.Fix) []api.Vec {
	var l []api.Vec
	for x := low; x <= high; x++ {
		for y := low; y <= high; y++ {
			l = append(l, v(x, y))
		}
	}
	return l
}

// checkNearest wants that Clamp's place is in the box, and no other of the box is as near.
func checkNearest(t *testing.T, p api.Vec, b api.Box) {
	t.Helper()
	away := func(q api.Vec) api.Fix { return (p.X-q.X)*(p.X-q.X) + (p.Y-q.Y)*(p.Y-q.Y) }
	got := Clamp(p, b)
	if !In(got, b) {
		t.Errorf("Clamp(%d, %d): %d is not in it", p, b, got)
	}
	for _, q := range places(0, 2) {
		if q != got && In(q, b) && away(q) <= away(got) {
			t.Errorf("Clamp(%d, %d): %d, and %d is as near", p, b, got, q)
		}
	}
}
