package wave

import (
	"math"
	"math/big"
	"testing"

	"maquette/api"
	"maquette/fix"
)

const (
	one    = api.One
	turn   = api.Turn
	most   = api.Fix(math.MaxInt64)
	lowest = api.Fix(math.MinInt64)
)

func checkNorm(t *testing.T, a, want int) {
	t.Helper()
	if got := Norm(a); got != want {
		t.Errorf("Norm(%d): %d, not %d", a, got, want)
	}
}

func checkWaves(t *testing.T, a int, sin, cos api.Fix) {
	t.Helper()
	if got := Sin(a); got != sin {
		t.Errorf("Sin(%d): %d, not %d", a, got, sin)
	}
	if got := Cos(a); got != cos {
		t.Errorf("Cos(%d): %d, not %d", a, got, cos)
	}
}

func checkRotate(t *testing.T, x, y api.Fix, a int, u, v api.Fix, err api.Errno) {
	t.Helper()
	if gotU, gotV, e := Rotate(x, y, a); gotU != u || gotV != v || e != err {
		t.Errorf("Rotate(%d, %d, %d): %d, %d, %d, not %d, %d, %d", x, y, a, gotU, gotV, e, u, v, err)
	}
}

func TestP501Norm(t *testing.T) {
	for _, c := range [][2]int{
		{0, 0}, {1, 1}, {turn / 4, turn / 4}, {turn / 2, turn / 2}, {turn - 1, turn - 1},
		{turn, 0}, {turn + 1, 1}, {2*turn - 1, turn - 1}, {2 * turn, 0}, {2*turn + 1, 1}, {7*turn + 12345, 12345},
		{-1, turn - 1}, {-turn / 4, 3 * turn / 4}, {-turn + 1, 1}, {-turn, 0}, {-turn - 1, turn - 1},
		{-2*turn + 1, 1}, {-2 * turn, 0}, {-2*turn - 1, turn - 1}, {-7*turn - 12345, turn - 12345},
		{math.MaxInt, turn - 1}, {math.MaxInt - 1, turn - 2}, {math.MaxInt - turn + 1, 0},
		{math.MinInt, 0}, {math.MinInt + 1, 1}, {math.MinInt + turn - 1, turn - 1},
	} {
		checkNorm(t, c[0], c[1])
	}
}

// Every angle within a turn is its own Norm, and that of the angles that are whole turns off, on both sides, up to the ends.
func TestP501NormOfWholeTurns(t *testing.T) {
	for n := range turn {
		for _, k := range []int{0, 1, -1, 2, -2, 1000, -1000, math.MaxInt / turn, math.MinInt / turn} {
			checkNorm(t, n+k*turn, n)
		}
	}
}

func TestP501SinAndCos(t *testing.T) {
	for _, c := range []struct {
		a        int
		sin, cos api.Fix
	}{
		{-1, -419427, 4294967276},
		{0, 0, one},
		{1, 419427, 4294967276},
		{2, 838850, 4294967216},
		{1000, 416488262, 4274985905},
		{turn / 12, 2147365682, 3714635243},
		{turn / 8, 3031741620, 3031741620},
		{turn/4 - 1, 4294967276, 419427},
		{turn / 4, one, 0},
		{turn/4 + 1, 4294967276, -419427},
		{3 * turn / 8, 3031741620, -3031741620},
		{turn/2 - 1, 419427, -4294967276},
		{turn / 2, 0, -one},
		{turn/2 + 1, -419427, -4294967276},
		{5 * turn / 8, -3031741620, -3031741620},
		{3*turn/4 - 1, -4294967276, -419427},
		{3 * turn / 4, -one, 0},
		{3*turn/4 + 1, -4294967276, 419427},
		{turn - 1, -419427, 4294967276},
		{turn, 0, one},
		{turn + 1, 419427, 4294967276},
	} {
		checkWaves(t, c.a, c.sin, c.cos)
		checkWaves(t, c.a+5*turn, c.sin, c.cos)
		checkWaves(t, c.a-5*turn, c.sin, c.cos)
	}
}

func TestP501SinAndCosBelow0(t *testing.T) {
	checkWaves(t, -1000, -416488262, 4274985905)
	checkWaves(t, -turn/4, -one, 0)
	checkWaves(t, -turn/2, 0, -one)
	checkWaves(t, -3*turn/4, one, 0)
	checkWaves(t, -turn, 0, one)
	checkWaves(t, -turn-1, -419427, 4294967276)
}

func TestP501SinAndCosOfTheEnds(t *testing.T) {
	checkWaves(t, math.MaxInt, -419427, 4294967276)
	checkWaves(t, math.MaxInt-turn/4+1, -one, 0)
	checkWaves(t, math.MinInt, 0, one)
	checkWaves(t, math.MinInt+1, 419427, 4294967276)
}

// Every angle of a turn against the chapter's quotient as it stands there, in numbers without a bound.
func TestP501SinAsExact(t *testing.T) {
	for n := range turn {
		checkWaves(t, n, exactSin(n), exactSin((n+turn/4)%turn))
	}
}

func exactSin(n int) api.Fix {
	h := int64(turn / 2)
	if int64(n) > h {
		return -exactSin(n - int(h))
	}
	q := int64(n) * (h - int64(n))
	up := new(big.Int).Mul(big.NewInt(16*q), big.NewInt(int64(one)))
	return api.Fix(up.Quo(up, big.NewInt(5*h*h-4*q)).Int64())
}

func TestP501Rotate(t *testing.T) {
	for _, c := range []struct {
		x, y api.Fix
		a    int
		u, v api.Fix
	}{
		{0, 0, 1000, 0, 0},
		{3, 5, 0, 3, 5},
		{3, 5, turn / 4, -5, 3},
		{3, 5, turn / 2, -3, -5},
		{3, 5, 3 * turn / 4, 5, -3},
		{3, 5, -turn / 4, 5, -3},
		{3, 5, turn, 3, 5},
		{-3, 5, turn / 4, -5, -3},
		{3, -5, turn / 4, 5, 3},
		{-3, -5, turn / 4, 5, -3},
		{-3, -5, turn / 2, 3, 5},
		{-3, -5, -turn, -3, -5},
		{one, 0, 1000, 4274985905, 416488262},
		{0, one, 1000, -416488262, 4274985905},
		{3 * one, 5 * one, turn / 8, -6063483240, 24253932960},
		{-3 * one, 5 * one, turn / 8, -24253932960, 6063483240},
		{3 * one, -5 * one, turn / 8, 24253932960, -6063483240},
		{-3 * one, -5 * one, turn / 8, 6063483240, -24253932960},
		{10*one + 1, -20*one - 1, 12345, 95729847410, 7219293430},
		{10*one + 1, -20*one - 1, -12345, -63213343190, -72252301870},
		{10*one + 1, -20*one - 1, math.MaxInt - turn + 12346, 95729847410, 7219293430},
		{3, 5, math.MinInt, 3, 5},
	} {
		checkRotate(t, c.x, c.y, c.a, c.u, c.v, api.OK)
	}
}

// Each product is cut on its own, towards 0, ahead of the sum: not the sum, and not down.
func TestP501RotateCuts(t *testing.T) {
	checkRotate(t, 7, 5, 1000, 6, 4, api.OK)
	checkRotate(t, -7, 5, 1000, -6, 4, api.OK)
	checkRotate(t, 7, -5, 1000, 6, -4, api.OK)
	checkRotate(t, -7, -5, 1000, -6, -4, api.OK)
	checkRotate(t, 1, 1, turn/8, 0, 0, api.OK)
	checkRotate(t, -1, -1, turn/8, 0, 0, api.OK)
}

func TestP501RotateOfTheGreatest(t *testing.T) {
	checkRotate(t, most, lowest, 0, most, lowest, api.OK)
	checkRotate(t, lowest, most, turn, lowest, most, api.OK)
	checkRotate(t, most, 0, turn/4, 0, most, api.OK)
	checkRotate(t, lowest, 0, turn/4, 0, lowest, api.OK)
	checkRotate(t, 0, most, turn/4, -most, 0, api.OK)
	checkRotate(t, most, -most, turn/2, -most, most, api.OK)
	checkRotate(t, 0, lowest, 3*turn/4, 0, 0, api.ErrOver)
	checkRotate(t, 0, -most, 3*turn/4, -most, 0, api.OK)
	checkRotate(t, most, 0, turn/8, 6510615553911029759, 6510615553911029759, api.OK)
}

// Of each of the six calls a place at which it alone has an error; what the others tell of it is not 0.
func TestP501RotateOver(t *testing.T) {
	for k, c := range []struct {
		x, y api.Fix
		a    int
	}{
		{lowest, 5, turn / 2},
		{-3, lowest, 3 * turn / 4},
		{most, -1 << 62, turn / 8},
		{lowest, 5, 3 * turn / 4},
		{-3, lowest, turn / 2},
		{most, 1 << 62, turn / 8},
	} {
		errs := sixErrors(c.x, c.y, c.a)
		for i, err := range errs {
			if (err != api.OK) != (i == k) {
				t.Errorf("Rotate(%d, %d, %d): errors %d: not just the one at %d", c.x, c.y, c.a, errs, k)
			}
		}
		checkRotate(t, c.x, c.y, c.a, 0, 0, api.ErrOver)
	}
}

// Where several of the six have one, it is told once, and beside it are zeros.
func TestP501RotateOverTwice(t *testing.T) {
	checkRotate(t, lowest, lowest, turn/2, 0, 0, api.ErrOver)
	checkRotate(t, lowest, lowest, 3*turn/4, 0, 0, api.ErrOver)
	checkRotate(t, most, lowest, turn/8, 0, 0, api.ErrOver)
	checkRotate(t, most, lowest, turn/2, 0, 0, api.ErrOver)
	checkRotate(t, 0, lowest, turn/4, 0, 0, api.ErrOver)
	checkRotate(t, lowest, lowest, 5*turn/8, 0, 0, api.ErrOver)
}

// sixErrors are those of the six calls, in their order, each done whatever became of the ones ahead of it.
func sixErrors(x, y api.Fix, a int) [6]api.Errno {
	sin, cos := exactSin(exactNorm(a)), exactSin(exactNorm(a+turn/4))
	p, e0 := fix.Mul(x, cos)
	q, e1 := fix.Mul(y, sin)
	_, e2 := fix.Sub(p, q)
	r, e3 := fix.Mul(x, sin)
	s, e4 := fix.Mul(y, cos)
	_, e5 := fix.Add(r, s)
	return [6]api.Errno{e0, e1, e2, e3, e4, e5}
}

func exactNorm(a int) int { return (a%turn + turn) % turn }

// Rotate against numbers without a bound, over great and small sides and angles of all quarters.
func TestP501RotateAsExact(t *testing.T) {
	l := []api.Fix{0, most, -most, lowest, lowest + 2, 1 << 62, -1 << 62, one, -one, one + 1, 12345678901}
	x := uint64(0x9E3779B97F4A7C15)
	for k := range 64 {
		x ^= x << 13
		x ^= x >> 7
		x ^= x << 17
		l = append(l, api.Fix(x)>>k)
	}
	for i, a := range []int{0, 1, turn / 12, turn / 8, turn/4 - 1, turn / 4, 20000, turn / 2, 40000, 3 * turn / 4, 60000, turn - 1, turn, -1000} {
		for _, x := range l {
			for _, y := range l[i%2:] {
				checkExactRotate(t, x, y, a)
			}
		}
	}
}

func checkExactRotate(t *testing.T, x, y api.Fix, a int) {
	t.Helper()
	sin, cos := exactSin(exactNorm(a)), exactSin(exactNorm(a+turn/4))
	xCos, ySin, xSin, yCos := exactMul(x, cos), exactMul(y, sin), exactMul(x, sin), exactMul(y, cos)
	u, v := new(big.Int).Sub(xCos, ySin), new(big.Int).Add(xSin, yCos)
	for _, n := range []*big.Int{xCos, ySin, u, xSin, yCos, v} {
		if !n.IsInt64() {
			checkRotate(t, x, y, a, 0, 0, api.ErrOver)
			return
		}
	}
	checkRotate(t, x, y, a, api.Fix(u.Int64()), api.Fix(v.Int64()), api.OK)
}

func exactMul(a, b api.Fix) *big.Int {
	p := new(big.Int).Mul(big.NewInt(int64(a)), big.NewInt(int64(b)))
	return p.Quo(p, big.NewInt(int64(one)))
}
