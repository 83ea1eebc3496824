package shape

import (
	"math"
	"math/big"
	"testing"

	"maquette/api"
	"maquette/calc"
)

const (
	one    = api.One
	most   = api.Fix(math.MaxInt64)
	lowest = api.Fix(math.MinInt64)
)

func v(x, y api.Fix) api.Vec { return api.Vec{X: x, Y: y} }

// ball and crate are bodies that may be, with nothing at an edge; wall is one that can't be moved.
func ball() api.Body {
	return api.Body{Shape: api.Ball, Size: v(2*one, 0), Mass: 3 * one, Pos: v(5*one, -7*one), Mom: v(-11*one, 13*one)}
}

func crate() api.Body {
	return api.Body{Shape: api.Crate, Size: v(2*one, 4*one), Mass: 3 * one, Pos: v(-5*one, 7*one), Mom: v(11*one, -13*one)}
}

func wall() api.Body {
	return api.Body{Shape: api.Crate, Size: v(2*one, 4*one), Pos: v(-5*one, 7*one)}
}

// kinds are the bodies of which each edge is asked.
func kinds() []api.Body { return []api.Body{ball(), crate()} }

// part is a number of a body.
type part struct {
	name string
	at   func(b *api.Body) *api.Fix
}

func sizeX() part { return part{"Size.X", func(b *api.Body) *api.Fix { return &b.Size.X }} }
func sizeY() part { return part{"Size.Y", func(b *api.Body) *api.Fix { return &b.Size.Y }} }
func mass() part  { return part{"Mass", func(b *api.Body) *api.Fix { return &b.Mass }} }
func posX() part  { return part{"Pos.X", func(b *api.Body) *api.Fix { return &b.Pos.X }} }
func posY() part  { return part{"Pos.Y", func(b *api.Body) *api.Fix { return &b.Pos.Y }} }
func momX() part  { return part{"Mom.X", func(b *api.Body) *api.Fix { return &b.Mom.X }} }
func momY() part  { return part{"Mom.Y", func(b *api.Body) *api.Fix { return &b.Mom.Y }} }

// checkPart sets the part of b to each of the numbers, and wants that Right answers so.
func checkPart(t *testing.T, b api.Body, p part, want bool, numbers ...api.Fix) {
	t.Helper()
	for _, n := range numbers {
		c := b
		*p.at(&c) = n
		if Right(c) != want {
			t.Errorf("%q, %s %d: Right is not %v", Name(b.Shape), p.name, n, want)
		}
	}
}

// checkRange wants of a part that what lies from least to greatest may be, and nothing beyond.
func checkRange(t *testing.T, b api.Body, p part, least, greatest api.Fix) {
	t.Helper()
	checkPart(t, b, p, true, least, least+1, least/2+greatest/2, greatest-1, greatest)
	checkPart(t, b, p, false, least-1, greatest+1, least-one, greatest+one, lowest, lowest+1, most)
}

// thrown is what f panics with; nil, if it does not.
func thrown(f func()) (p any) {
	defer func() { p = recover() }()
	f()
	return nil
}

// checkSpeed holds Speed against a Vec; a panic is no answer.
func checkSpeed(t *testing.T, mass api.Fix, mom, want api.Vec) {
	t.Helper()
	var got api.Vec
	b := api.Body{Shape: api.Ball, Size: v(one, 0), Mass: mass, Pos: v(17, 19), Mom: mom}
	if p := thrown(func() { got = Speed(b) }); p != nil || got != want {
		t.Errorf("Speed of Mass %d, Mom %d: %d, panic %v, not %d", mass, mom, got, p, want)
	}
}

// checkLightness holds Lightness against a Fix; a panic is no answer.
func checkLightness(t *testing.T, mass, want api.Fix) {
	t.Helper()
	var got api.Fix
	b := api.Body{Shape: api.Crate, Size: v(one, one), Mass: mass, Pos: v(17, 19), Mom: v(23, most)}
	if p := thrown(func() { got = Lightness(b) }); p != nil || got != want {
		t.Errorf("Lightness of Mass %d: %d, panic %v, not %d", mass, got, p, want)
	}
}

// checkOver wants that f panics with a Fault ErrOver, which calc.Try catches.
func checkOver(t *testing.T, name string, f func()) {
	t.Helper()
	if p := thrown(f); p != (calc.Fault{Errno: api.ErrOver}) {
		t.Errorf("%s: panic %v, not a Fault ErrOver", name, p)
		return
	}
	if err := calc.Try(f); err != api.ErrOver {
		t.Errorf("%s: Try: %d", name, err)
	}
}

func TestP701Right(t *testing.T) {
	for _, b := range []api.Body{
		ball(), crate(), wall(),
		{Shape: api.Ball, Size: v(one/64, 0)},
		{Shape: api.Crate, Size: v(one/64, 1000*one)},
		{Shape: api.Ball, Size: v(1000*one, 0), Mass: one / 64, Pos: v(10000*one, -10000*one), Mom: v(-1000000*one, 1000000*one)},
		{Shape: api.Crate, Size: v(1000*one, one/64), Mass: 10000 * one, Pos: v(-10000*one, 10000*one), Mom: v(1000000*one, -1000000*one)},
	} {
		if !Right(b) {
			t.Errorf("%v may not be", b)
		}
	}
}

func TestP701RightSizeOfABall(t *testing.T) {
	checkRange(t, ball(), sizeX(), one/64, 1000*one)
	checkPart(t, ball(), sizeX(), false, 0, 1, -1, -2*one)
	checkPart(t, ball(), sizeY(), true, 0)
	checkPart(t, ball(), sizeY(), false, 1, -1, one/64, one, -one, 2*one, 1000*one, lowest, most)
}

func TestP701RightSizeOfACrate(t *testing.T) {
	for _, p := range []part{sizeX(), sizeY()} {
		checkRange(t, crate(), p, one/64, 1000*one)
		checkPart(t, crate(), p, false, 0, 1, -1, -2*one)
	}
}

func TestP701RightMass(t *testing.T) {
	for _, b := range kinds() {
		checkRange(t, b, mass(), one/64, 10000*one)
		checkPart(t, b, mass(), true, one, 2*one, 1000*one+1)
		checkPart(t, b, mass(), false, 1, -1, -one/64, -one, -10000*one)
		b.Mom = v(0, 0)
		checkPart(t, b, mass(), true, 0, one/64, 10000*one)
		checkPart(t, b, mass(), false, 1, -1, one/64-1, -one/64, -one, 10000*one+1)
	}
}

func TestP701RightPos(t *testing.T) {
	for _, b := range append(kinds(), wall()) {
		for _, p := range []part{posX(), posY()} {
			checkRange(t, b, p, -10000*one, 10000*one)
			checkPart(t, b, p, true, 0, 1, -1)
		}
	}
}

func TestP701RightMom(t *testing.T) {
	for _, b := range kinds() {
		for _, p := range []part{momX(), momY()} {
			checkRange(t, b, p, -1000000*one, 1000000*one)
			checkPart(t, b, p, true, 0, 1, -1)
		}
	}
}

func TestP701RightMomOfMassZero(t *testing.T) {
	for _, b := range kinds() {
		b.Mass = 0
		if Right(b) {
			t.Errorf("%q: Mass 0, both sides of Mom not 0", Name(b.Shape))
		}
		b.Mom = v(0, 0)
		for _, p := range []part{momX(), momY()} {
			checkPart(t, b, p, true, 0)
			checkPart(t, b, p, false, 1, -1, one, -one, 1000000*one, lowest, most)
		}
	}
}

func TestP701RightOfWhatIsNoShape(t *testing.T) {
	for _, b := range append(kinds(), wall()) {
		for _, shape := range []int{0, 3, -1, -2, 4, 1 << 32, 1<<32 + api.Ball, 1<<32 + api.Crate, math.MinInt, math.MaxInt} {
			b.Shape = shape
			if Right(b) {
				t.Errorf("shape %d: %v may be", shape, b)
			}
		}
	}
	if Right(api.Body{}) {
		t.Error("the zero body may be")
	}
}

// A body of the other shape's size is none.
func TestP701RightOfTheOtherShape(t *testing.T) {
	b, c := ball(), crate()
	b.Shape, c.Shape = c.Shape, b.Shape
	if Right(b) || Right(c) {
		t.Errorf("a crate without a height: %v; a ball with one: %v", Right(b), Right(c))
	}
}

func TestP701Speed(t *testing.T) {
	for _, c := range []struct {
		mass      api.Fix
		mom, want api.Vec
	}{
		{one, v(5*one, -7), v(5*one, -7)},
		{one, v(most, lowest), v(most, lowest)},
		{2 * one, v(3*one, -5*one), v(3*one/2, -5*one/2)},
		{2 * one, v(-3, 3), v(-1, 1)},
		{2 * one, v(-1, -7), v(0, -3)},
		{3 * one, v(one, -one), v(1431655765, -1431655765)},
		{one / 2, v(-one, 7), v(-2*one, 14)},
		{one / 64, v(-1000000*one, 1000000*one), v(-64000000*one, 64000000*one)},
		{10000 * one, v(-1000000*one, 1), v(-100*one, 0)},
		{5 * one, v(0, 0), v(0, 0)},
		{5 * one, v(0, 10), v(0, 2)},
		{5 * one, v(-10, 0), v(-2, 0)},
	} {
		checkSpeed(t, c.mass, c.mom, c.want)
	}
}

func TestP701SpeedOfMassZero(t *testing.T) {
	for _, mom := range []api.Vec{v(0, 0), v(one, -one), v(1, 0), v(0, 1), v(most, lowest), v(lowest, most)} {
		checkSpeed(t, 0, mom, v(0, 0))
	}
	if got := Speed(wall()); got != v(0, 0) {
		t.Errorf("a wall: %d", got)
	}
}

// Speed reckons for bodies that may not be, too, as long as calc does.
func TestP701SpeedOfWhatMayNotBe(t *testing.T) {
	checkSpeed(t, -2*one, v(3*one, -5*one), v(-3*one/2, 5*one/2))
	checkSpeed(t, 1, v(1<<31-1, -1<<31), v((1<<31-1)<<32, lowest))
	checkSpeed(t, -1, v(1<<31, 1-1<<31), v(lowest, (1<<31-1)<<32))
	checkSpeed(t, lowest, v(most, lowest), v(-one+1, one))
	checkSpeed(t, most, v(most, lowest), v(one, -one))
	checkSpeed(t, -one, v(most, lowest+1), v(-most, most))
	if got := Speed(api.Body{Shape: 7, Size: v(-1, -1), Mass: 2 * one, Mom: v(6, -8)}); got != v(3, -4) {
		t.Errorf("no shape: %d", got)
	}
}

func TestP701SpeedFaults(t *testing.T) {
	for _, c := range []struct {
		name string
		mass api.Fix
		mom  api.Vec
	}{
		{"a single bit, X alone", 1, v(1<<31, 0)},
		{"a single bit, Y alone", 1, v(0, 1<<31)},
		{"a single bit, both", 1, v(one, -one)},
		{"a single bit, X alone below", 1, v(-1<<31-1, 1)},
		{"a single bit, Y alone below", 1, v(1, -1<<31-1)},
		{"a single bit, the least, X alone", 1, v(lowest, 0)},
		{"a single bit, the least, Y alone", 1, v(0, lowest)},
		{"a bit below One, X alone", one - 1, v(most, 0)},
		{"a bit below One, Y alone", one - 1, v(0, most)},
		{"-One, the least, X alone", -one, v(lowest, most)},
		{"-One, the least, Y alone", -one, v(most, lowest)},
		{"the least that may be", one / 64, v(most, lowest)},
	} {
		checkOver(t, "Speed: "+c.name, func() { Speed(api.Body{Shape: api.Ball, Size: v(one, 0), Mass: c.mass, Mom: c.mom}) })
	}
}

func TestP701Lightness(t *testing.T) {
	for _, c := range []struct{ mass, want api.Fix }{
		{0, 0},
		{one, one},
		{2 * one, one / 2},
		{4 * one, one / 4},
		{3 * one, 1431655765},
		{one / 2, 2 * one},
		{one / 64, 64 * one},
		{10000 * one, 429496},
		{one + 1, one - 1},
		{one - 1, one + 1},
	} {
		checkLightness(t, c.mass, c.want)
	}
	if got := Lightness(wall()); got != 0 {
		t.Errorf("a wall: %d", got)
	}
}

// Lightness reckons for bodies that may not be, too, as long as calc does.
func TestP701LightnessOfWhatMayNotBe(t *testing.T) {
	checkLightness(t, -one, -one)
	checkLightness(t, -4*one, -one/4)
	checkLightness(t, -3*one, -1431655765)
	checkLightness(t, 3, 6148914691236517205)
	checkLightness(t, -2, lowest)
	checkLightness(t, -3, -6148914691236517205)
	checkLightness(t, lowest, -2)
	checkLightness(t, most, 2)
	if got := Lightness(api.Body{Shape: -1, Size: v(lowest, most), Mass: 2 * one}); got != one/2 {
		t.Errorf("no shape: %d", got)
	}
}

func TestP701LightnessFaults(t *testing.T) {
	for _, mass := range []api.Fix{1, 2, -1} {
		checkOver(t, "Lightness", func() { Lightness(api.Body{Shape: api.Ball, Size: v(one, 0), Mass: mass}) })
	}
}

// exactDiv is a divided by b, cut towards 0, without a bound.
func exactDiv(a, b api.Fix) *big.Int {
	n := new(big.Int).Lsh(big.NewInt(int64(a)), 32)
	return n.Quo(n, big.NewInt(int64(b)))
}

// numbers are the ends of a Fix, 0, and what lies about its powers of 2.
func numbers() []api.Fix {
	l := []api.Fix{0, most, most - 1, lowest, lowest + 1, 3 * one, -5 * one / 3, 10000 * one}
	for k := 0; k < 63; k += 3 {
		p := api.Fix(1) << k
		l = append(l, p, -p, p+1, -p-1)
	}
	return l
}

func TestP701SpeedAndLightnessAsExact(t *testing.T) {
	l := numbers()
	for i, m := range l {
		if m == 0 {
			continue
		}
		if q := exactDiv(one, m); q.IsInt64() {
			checkLightness(t, m, api.Fix(q.Int64()))
		} else {
			checkOver(t, "Lightness", func() { Lightness(api.Body{Mass: m}) })
		}
		for j, x := range l {
			mom := v(x, l[(i+2*j)%len(l)])
			p, q := exactDiv(mom.X, m), exactDiv(mom.Y, m)
			if p.IsInt64() && q.IsInt64() {
				checkSpeed(t, m, mom, v(api.Fix(p.Int64()), api.Fix(q.Int64())))
			} else {
				checkOver(t, "Speed", func() { Speed(api.Body{Mass: m, Mom: mom}) })
			}
		}
	}
}

func TestP701Name(t *testing.T) {
	for _, c := range []struct {
		shape int
		want  string
	}{
		{api.Ball, "ball"}, {api.Crate, "crate"},
		{1, "ball"}, {2, "crate"},
		{0, ""}, {3, ""}, {-1, ""}, {-2, ""}, {1<<32 + 1, ""}, {math.MinInt, ""}, {math.MaxInt, ""},
	} {
		if got := Name(c.shape); got != c.want {
			t.Errorf("Name(%d): %q, not %q", c.shape, got, c.want)
		}
	}
}
