package vec

import (
	"math"
	"math/big"
	"testing"

	"maquette/api"
	"maquette/calc"
)

const (
	one    = api.One
	most   = api.Fix(math.MaxInt64)
	lowest = api.Fix(math.MinInt64)
)

func v(x, y api.Fix) api.Vec { return api.Vec{X: x, Y: y} }

// thrown is what f panics with; nil, if it does not.
func thrown(f func()) (p any) {
	defer func() { p = recover() }()
	f()
	return nil
}

// checkVec holds what f answers against a Vec; a panic is no answer.
func checkVec(t *testing.T, name string, f func() api.Vec, want api.Vec) {
	t.Helper()
	var got api.Vec
	if p := thrown(func() { got = f() }); p != nil || got != want {
		t.Errorf("%s: %d, panic %v, not %d", name, got, p, want)
	}
}

// checkFix holds what f answers against a Fix; a panic is no answer.
func checkFix(t *testing.T, name string, f func() api.Fix, want api.Fix) {
	t.Helper()
	var got api.Fix
	if p := thrown(func() { got = f() }); p != nil || got != want {
		t.Errorf("%s: %d, panic %v, not %d", name, got, p, want)
	}
}

// checkUnit holds both that Unit answers against what is wanted.
func checkUnit(t *testing.T, a, want api.Vec, length api.Fix) {
	t.Helper()
	var got api.Vec
	var n api.Fix
	if p := thrown(func() { got, n = Unit(a) }); p != nil || got != want || n != length {
		t.Errorf("Unit(%d): %d, %d, panic %v, not %d, %d", a, got, n, p, want, length)
	}
}

// checkFault wants that f panics with a Fault of want, which calc.Try catches.
func checkFault(t *testing.T, name string, f func(), want api.Errno) {
	t.Helper()
	if p := thrown(f); p != (calc.Fault{Errno: want}) {
		t.Errorf("%s: panic %v, not a Fault of %d", name, p, want)
		return
	}
	if err := calc.Try(f); err != want {
		t.Errorf("%s: Try: %d, not %d", name, err, want)
	}
}

func TestP601Add(t *testing.T) {
	for _, c := range []struct{ a, b, want api.Vec }{
		{v(1, 2), v(3, -4), v(4, -2)},
		{v(one, -5*one), v(-3*one, one/2), v(-2*one, -9*one/2)},
		{v(0, 0), v(most, lowest), v(most, lowest)},
		{v(most-1, lowest+1), v(1, -1), v(most, lowest)},
		{v(most, lowest), v(lowest, most), v(-1, -1)},
		{v(most, lowest), v(-most, 0), v(0, lowest)},
	} {
		checkVec(t, "Add", func() api.Vec { return Add(c.a, c.b) }, c.want)
		checkVec(t, "Add the other way", func() api.Vec { return Add(c.b, c.a) }, c.want)
	}
}

func TestP601AddFaults(t *testing.T) {
	for _, c := range []struct {
		name string
		a, b api.Vec
	}{
		{"above in X alone", v(most, 0), v(1, 0)},
		{"above in Y alone", v(0, most), v(0, 1)},
		{"above in both", v(most, most), v(1, 1)},
		{"below in X alone", v(lowest, 5), v(-1, 5)},
		{"below in Y alone", v(5, lowest), v(5, -1)},
		{"below in both", v(lowest, lowest), v(lowest, lowest)},
		{"above in one, below in the other", v(most, lowest), v(most, lowest)},
	} {
		checkFault(t, "Add "+c.name, func() { Add(c.a, c.b) }, api.ErrOver)
		checkFault(t, "Add the other way "+c.name, func() { Add(c.b, c.a) }, api.ErrOver)
	}
}

func TestP601Sub(t *testing.T) {
	for _, c := range []struct{ a, b, want api.Vec }{
		{v(1, 2), v(3, -4), v(-2, 6)},
		{v(3, -4), v(1, 2), v(2, -6)},
		{v(one, -5*one), v(-3*one, one/2), v(4*one, -11*one/2)},
		{v(most, lowest), v(0, 0), v(most, lowest)},
		{v(most, lowest), v(most, lowest), v(0, 0)},
		{v(-1, -1), v(most, lowest), v(lowest, most)},
		{v(most-1, lowest+1), v(-1, 1), v(most, lowest)},
	} {
		checkVec(t, "Sub", func() api.Vec { return Sub(c.a, c.b) }, c.want)
	}
}

func TestP601SubFaults(t *testing.T) {
	for _, c := range []struct {
		name string
		a, b api.Vec
	}{
		{"below in X alone", v(lowest, 5), v(1, 5)},
		{"below in Y alone", v(5, lowest), v(5, 1)},
		{"below in both", v(-2, -2), v(most, most)},
		{"above in X alone", v(0, 0), v(lowest, 0)},
		{"above in Y alone", v(0, 0), v(0, lowest)},
		{"above in both", v(most, most), v(-1, -1)},
		{"above in one, below in the other", v(most, lowest), v(lowest, most)},
	} {
		checkFault(t, "Sub "+c.name, func() { Sub(c.a, c.b) }, api.ErrOver)
	}
}

func TestP601Scale(t *testing.T) {
	for _, c := range []struct {
		a    api.Vec
		k    api.Fix
		want api.Vec
	}{
		{v(one, -6), one / 2, v(one/2, -3)},
		{v(2*one, -3*one), 5 * one, v(10*one, -15*one)},
		{v(2*one, -3*one), -one / 4, v(-one/2, 3*one/4)},
		{v(7, -7), one / 2, v(3, -3)},
		{v(7, -7), -one / 2, v(-3, 3)},
		{v(most, lowest), 0, v(0, 0)},
		{v(0, 0), lowest, v(0, 0)},
		{v(most, lowest), one, v(most, lowest)},
		{v(most, lowest+1), -one, v(-most, most)},
		{v(most, lowest), one / 2, v(most/2, lowest/2)},
		{v(most, lowest), 1, v(1<<31-1, -1<<31)},
		{v(one, -one+1), lowest, v(lowest, most-1<<31+1)},
		{v(1, -1), 1, v(0, 0)},
	} {
		checkVec(t, "Scale", func() api.Vec { return Scale(c.a, c.k) }, c.want)
	}
}

func TestP601ScaleFaults(t *testing.T) {
	for _, c := range []struct {
		name string
		a    api.Vec
		k    api.Fix
	}{
		{"in X alone", v(most, 0), 2 * one},
		{"in Y alone", v(0, most), 2 * one},
		{"in both", v(most, most), 2 * one},
		{"below, in X alone", v(lowest, 1), one + 1},
		{"below, in Y alone", v(1, lowest), one + 1},
		{"the least by less than 0, in X alone", v(lowest, most), -one},
		{"the least by less than 0, in Y alone", v(most, lowest), -one},
		{"by the least, in X alone", v(2*one, one), lowest},
		{"by the least, in Y alone", v(one, -one), lowest},
	} {
		checkFault(t, "Scale "+c.name, func() { Scale(c.a, c.k) }, api.ErrOver)
	}
}

func TestP601Over(t *testing.T) {
	for _, c := range []struct {
		a    api.Vec
		k    api.Fix
		want api.Vec
	}{
		{v(one, -6), 2 * one, v(one/2, -3)},
		{v(7, -7), 2 * one, v(3, -3)},
		{v(7, -7), -2 * one, v(-3, 3)},
		{v(one, -one), 3 * one, v(1431655765, -1431655765)},
		{v(one, -6), one, v(one, -6)},
		{v(most, lowest), one, v(most, lowest)},
		{v(one, -6), one / 2, v(2*one, -12)},
		{v(3, -5), one / 4, v(12, -20)},
		{v(3, -5), 1, v(3*one, -5*one)},
		{v(3, -5), -1, v(-3*one, 5*one)},
		{v(most, lowest+1), -one, v(-most, most)},
		{v(1<<62-1, -1<<62), one / 2, v(most-1, lowest)},
		{v(1<<31-1, -1<<31), 1, v((1<<31-1)<<32, lowest)},
		{v(most, lowest), most, v(one, -one)},
		{v(most, lowest), lowest, v(-one+1, one)},
		{v(0, 0), lowest, v(0, 0)},
		{v(0, 0), 1, v(0, 0)},
	} {
		checkVec(t, "Over", func() api.Vec { return Over(c.a, c.k) }, c.want)
	}
}

func TestP601OverFaults(t *testing.T) {
	for _, c := range []struct {
		name string
		a    api.Vec
		k    api.Fix
	}{
		{"by less than One, in X alone", v(most, 0), one - 1},
		{"by less than One, in Y alone", v(0, most), one - 1},
		{"by less than One, in both", v(lowest, most), one - 1},
		{"by one bit, in X alone", v(1<<31, 1), 1},
		{"by one bit, in Y alone", v(1, 1<<31), 1},
		{"below, in X alone", v(lowest, 0), 1},
		{"below, in Y alone", v(0, lowest), 1},
		{"the least by less than 0, in X alone", v(lowest, most), -one},
		{"the least by less than 0, in Y alone", v(most, lowest), -one},
	} {
		checkFault(t, "Over "+c.name, func() { Over(c.a, c.k) }, api.ErrOver)
	}
}

func TestP601OverByZero(t *testing.T) {
	for _, a := range []api.Vec{v(0, 0), v(1, 1), v(one, 0), v(0, -one), v(most, lowest), v(lowest, most)} {
		checkFault(t, "Over by 0", func() { Over(a, 0) }, api.ErrZero)
	}
}

func TestP601Dot(t *testing.T) {
	for _, c := range []struct {
		a, b api.Vec
		want api.Fix
	}{
		{v(3*one, one), v(one, -5*one), -2 * one},
		{v(2*one, 3*one), v(5*one, 7*one), 31 * one},
		{v(-2*one, -3*one), v(-5*one, -7*one), 31 * one},
		{v(-2*one, 3*one), v(5*one, -7*one), -31 * one},
		{v(-one/2, one), v(one/2, -one/4), -one / 2},
		{v(one, 0), v(0, one), 0},
		{v(0, 0), v(most, lowest), 0},
		{v(most, 0), v(one, most), most},
		{v(0, lowest), v(lowest, one), lowest},
		{v(most, lowest), v(one, one), -1},
		{v(most, most), v(one, -one), 0},
		{v(most-1, 1), v(one, one), most},
		{v(lowest+1, 1), v(one, -one), lowest},
	} {
		checkFix(t, "Dot", func() api.Fix { return Dot(c.a, c.b) }, c.want)
		checkFix(t, "Dot the other way", func() api.Fix { return Dot(c.b, c.a) }, c.want)
	}
}

// Each product is cut on its own, towards 0, ahead of the sum.
func TestP601DotCuts(t *testing.T) {
	checkFix(t, "Dot of two halves of a bit", func() api.Fix { return Dot(v(one/2, one/2), v(1, 1)) }, 0)
	checkFix(t, "Dot of them below 0", func() api.Fix { return Dot(v(one/2, one/2), v(-1, -1)) }, 0)
	checkFix(t, "Dot of three halves", func() api.Fix { return Dot(v(one/2, one/2), v(3, 3)) }, 2)
	checkFix(t, "Dot of three halves below 0", func() api.Fix { return Dot(v(one/2, one/2), v(-3, 3)) }, 0)
}

func TestP601DotFaults(t *testing.T) {
	for _, c := range []struct {
		name string
		a, b api.Vec
	}{
		{"the product of the Xs alone", v(most, 0), v(2*one, 0)},
		{"the product of the Ys alone", v(0, most), v(0, 2*one)},
		{"both products", v(most, lowest), v(2*one, 2*one)},
		{"a product, though the whole is a Fix", v(most, most), v(2*one, -2*one)},
		{"the least, times -1", v(lowest, -one), v(-one, one)},
		{"the sum alone, above", v(most, most), v(one, one)},
		{"the sum alone, by one bit", v(most, 1), v(one, one)},
		{"the sum alone, below", v(lowest, 1), v(one, -one)},
	} {
		checkFault(t, "Dot: "+c.name, func() { Dot(c.a, c.b) }, api.ErrOver)
		checkFault(t, "Dot the other way: "+c.name, func() { Dot(c.b, c.a) }, api.ErrOver)
	}
}

func TestP601Len(t *testing.T) {
	for _, c := range []struct {
		a    api.Vec
		want api.Fix
	}{
		{v(0, 0), 0},
		{v(7, 0), 7}, {v(0, 7), 7}, {v(-7, 0), 7}, {v(0, -7), 7},
		{v(1, 0), 1}, {v(0, -1), 1}, {v(1, 1), 1}, {v(-1, 2), 2},
		{v(3, 4), 5}, {v(3, -4), 5}, {v(-3, -4), 5}, {v(-4, 3), 5},
		{v(3*one, 4*one), 5 * one}, {v(-3*one, 4*one), 5 * one},
		{v(one, one), 6074000999},
		{v(3<<60, -1<<62), 5 << 60},
		{v(most, 0), most}, {v(0, -most), most}, {v(most, one-1), most},
	} {
		checkFix(t, "Len", func() api.Fix { return Len(c.a) }, c.want)
	}
}

// What root.Len has an error of is a Fault of it, in Unit too.
func TestP601LenAndUnitFaults(t *testing.T) {
	for _, a := range []api.Vec{
		v(lowest, 0), v(0, lowest), v(lowest, lowest), v(lowest, 5), v(-5, lowest),
		v(most, one), v(-one, -most), v(most, most), v(-most, most), v(most, lowest),
	} {
		checkFault(t, "Len", func() { Len(a) }, api.ErrOver)
		checkFault(t, "Unit", func() { Unit(a) }, api.ErrOver)
	}
}

func TestP601Unit(t *testing.T) {
	checkUnit(t, v(0, 0), v(0, 0), 0)
	checkUnit(t, v(3*one, 4*one), v(2576980377, 3435973836), 5*one)
	checkUnit(t, v(3, 4), v(2576980377, 3435973836), 5)
	checkUnit(t, v(-3*one, 4*one), v(-2576980377, 3435973836), 5*one)
	checkUnit(t, v(4*one, -3*one), v(3435973836, -2576980377), 5*one)
	checkUnit(t, v(-3*one, -4*one), v(-2576980377, -3435973836), 5*one)
	checkUnit(t, v(7*one, 0), v(one, 0), 7*one)
	checkUnit(t, v(0, -7), v(0, -one), 7)
	checkUnit(t, v(one, one), v(3037000500, 3037000500), 6074000999)
	checkUnit(t, v(most, 0), v(one, 0), most)
	checkUnit(t, v(0, -most), v(0, -one), most)
	checkUnit(t, v(-most, 1), v(-one, 0), most)
}

// The length of a single bit on both sides is cut to one: each side is a whole One then.
func TestP601UnitOfASingleBit(t *testing.T) {
	checkUnit(t, v(1, 0), v(one, 0), 1)
	checkUnit(t, v(-1, 0), v(-one, 0), 1)
	checkUnit(t, v(0, 1), v(0, one), 1)
	checkUnit(t, v(0, -1), v(0, -one), 1)
	checkUnit(t, v(1, 1), v(one, one), 1)
	checkUnit(t, v(-1, 1), v(-one, one), 1)
	checkUnit(t, v(1, -1), v(one, -one), 1)
}

func TestP601Share(t *testing.T) {
	for _, c := range []struct {
		a    api.Vec
		n    int
		want api.Vec
	}{
		{v(6, -8), 2, v(3, -4)},
		{v(7, -7), 2, v(3, -3)},
		{v(7, -7), -2, v(-3, 3)},
		{v(-1, 1), 2, v(0, 0)},
		{v(-11, -14), 4, v(-2, -3)},
		{v(one, -one), 3, v(1431655765, -1431655765)},
		{v(one, -6*one), 64, v(one/64, -6*one/64)},
		{v(0, 0), -5, v(0, 0)},
		{v(5, -9), 1, v(5, -9)},
		{v(5, -9), -1, v(-5, 9)},
		{v(most, lowest), 1, v(most, lowest)},
		{v(most, lowest+1), -1, v(-most, most)},
		{v(most, lowest), 2, v(most/2, lowest/2)},
		{v(most, lowest), -2, v(-(most / 2), 1<<62)},
		{v(5, -5), math.MaxInt, v(0, 0)},
		{v(5, -5), math.MinInt, v(0, 0)},
		{v(most, lowest), math.MaxInt, v(1, -1)},
		{v(most, lowest), math.MinInt, v(0, 1)},
		{v(-most, lowest+1), math.MaxInt, v(-1, -1)},
		{v(most, lowest), math.MinInt + 1, v(-1, 1)},
		{v(3*one, -one), 1 << 32, v(3, -1)},
	} {
		checkVec(t, "Share", func() api.Vec { return Share(c.a, c.n) }, c.want)
	}
}

func TestP601ShareByZero(t *testing.T) {
	for _, a := range []api.Vec{v(0, 0), v(1, 1), v(one, 0), v(0, -one), v(most, lowest), v(lowest, lowest)} {
		checkFault(t, "Share by 0", func() { Share(a, 0) }, api.ErrZero)
	}
}

func TestP601ShareOfTheLeast(t *testing.T) {
	checkFault(t, "Share by -1, in X alone", func() { Share(v(lowest, 3), -1) }, api.ErrOver)
	checkFault(t, "Share by -1, in Y alone", func() { Share(v(3, lowest), -1) }, api.ErrOver)
	checkFault(t, "Share by -1, in both", func() { Share(v(lowest, lowest), -1) }, api.ErrOver)
}

// sides are the ends of a Fix, what lies about its powers of 2, and a spread of others: the same ones each time.
func sides() []api.Fix {
	l := []api.Fix{0, most, most - 1, lowest, lowest + 1, 3 * one, -5 * one / 3}
	for k := 0; k < 63; k += 7 {
		p := api.Fix(1) << k
		l = append(l, p, -p, p-1, -p-1)
	}
	x := uint64(0x9E3779B97F4A7C15)
	for k := range 24 {
		x ^= x << 13
		x ^= x >> 7
		x ^= x << 17
		l = append(l, api.Fix(x)>>(k*5%63))
	}
	return l
}

func wide(a api.Fix) *big.Int { return big.NewInt(int64(a)) }

func exactMul(a, b api.Fix) *big.Int {
	p := new(big.Int).Mul(wide(a), wide(b))
	return p.Quo(p, wide(one))
}

func exactDiv(a, b api.Fix) *big.Int {
	n := new(big.Int).Mul(wide(a), wide(one))
	return n.Quo(n, wide(b))
}

func exactLen(x, y api.Fix) *big.Int {
	n := new(big.Int).Mul(wide(x), wide(x))
	n.Add(n, new(big.Int).Mul(wide(y), wide(y)))
	return n.Sqrt(n)
}

// checkExact holds what f answers against two numbers without a bound: a Fault ErrOver, if one of them, or of those on the way to them, is no Fix.
func checkExact(t *testing.T, name string, f func() api.Vec, x, y *big.Int, way ...*big.Int) {
	t.Helper()
	for _, n := range append(way, x, y) {
		if !n.IsInt64() {
			checkFault(t, name, func() { f() }, api.ErrOver)
			return
		}
	}
	checkVec(t, name, f, v(api.Fix(x.Int64()), api.Fix(y.Int64())))
}

func TestP601AsExact(t *testing.T) {
	l := sides()
	for i, x := range l {
		for j, y := range l {
			a, b, k := v(x, y), v(l[(i+j)%len(l)], l[(i*j+1)%len(l)]), l[(2*i+3*j)%len(l)]
			checkExact(t, "Add", func() api.Vec { return Add(a, b) }, new(big.Int).Add(wide(a.X), wide(b.X)), new(big.Int).Add(wide(a.Y), wide(b.Y)))
			checkExact(t, "Sub", func() api.Vec { return Sub(a, b) }, new(big.Int).Sub(wide(a.X), wide(b.X)), new(big.Int).Sub(wide(a.Y), wide(b.Y)))
			checkExact(t, "Scale", func() api.Vec { return Scale(a, k) }, exactMul(x, k), exactMul(y, k))
			p, q := exactMul(a.X, b.X), exactMul(a.Y, b.Y)
			checkExact(t, "Dot", func() api.Vec { return v(Dot(a, b), 0) }, new(big.Int).Add(p, q), new(big.Int), p, q)
			checkExactUnit(t, a)
			if k != 0 {
				checkExact(t, "Over", func() api.Vec { return Over(a, k) }, exactDiv(x, k), exactDiv(y, k))
				checkExact(t, "Share", func() api.Vec { return Share(a, int(k)) }, new(big.Int).Quo(wide(x), wide(k)), new(big.Int).Quo(wide(y), wide(k)))
			}
		}
	}
}

// checkExactUnit holds Len and Unit against a length without a bound.
func checkExactUnit(t *testing.T, a api.Vec) {
	t.Helper()
	n := exactLen(a.X, a.Y)
	checkExact(t, "Len", func() api.Vec { return v(Len(a), 0) }, n, new(big.Int))
	length := api.Fix(n.Int64())
	switch {
	case !n.IsInt64():
		checkFault(t, "Unit", func() { Unit(a) }, api.ErrOver)
	case length == 0:
		checkUnit(t, a, v(0, 0), 0)
	default:
		checkUnit(t, a, v(api.Fix(exactDiv(a.X, length).Int64()), api.Fix(exactDiv(a.Y, length).Int64())), length)
	}
}
