package root

import (
	"math"
	"math/big"
	"testing"

	"maquette/api"
)

const (
	one     = api.One
	most    = api.Fix(math.MaxInt64)
	lowest  = api.Fix(math.MinInt64)
	topRoot = uint64(1<<32 - 1) // of the greatest uint64
)

func checkInt(t *testing.T, n, want uint64) {
	t.Helper()
	if got := Int(n); got != want {
		t.Errorf("Int(%d): %d, not %d", n, got, want)
	}
}

func checkSqrt(t *testing.T, a, want api.Fix, err api.Errno) {
	t.Helper()
	if got, e := Sqrt(a); got != want || e != err {
		t.Errorf("Sqrt(%d): %d, %d, not %d, %d", a, got, e, want, err)
	}
}

// checkLen tries both signs of both sides, each side first: none of that is to be seen in a length.
func checkLen(t *testing.T, x, y, want api.Fix, err api.Errno) {
	t.Helper()
	for _, c := range []api.Vec{{X: x, Y: y}, {X: -x, Y: y}, {X: x, Y: -y}, {X: -x, Y: -y}, {X: y, Y: x}, {X: -y, Y: x}, {X: y, Y: -x}, {X: -y, Y: -x}} {
		if got, e := Len(c.X, c.Y); got != want || e != err {
			t.Errorf("Len(%d, %d): %d, %d, not %d, %d", c.X, c.Y, got, e, want, err)
		}
	}
}

func TestP401Int(t *testing.T) {
	for _, c := range [][2]uint64{
		{0, 0}, {1, 1}, {2, 1}, {3, 1}, {4, 2}, {5, 2}, {8, 2}, {9, 3}, {10, 3}, {15, 3}, {16, 4}, {99, 9}, {100, 10}, {101, 10},
		{1 << 31, 46340}, {1<<32 - 1, 65535}, {1 << 32, 65536}, {1<<32 + 1, 65536}, {1 << 62, 1 << 31}, {1<<62 - 1, 1<<31 - 1},
		{1 << 63, 3037000499}, {topRoot*topRoot - 1, topRoot - 1}, {topRoot * topRoot, topRoot}, {topRoot*topRoot + 1, topRoot},
		{math.MaxUint64 - 1, topRoot}, {math.MaxUint64, topRoot},
	} {
		checkInt(t, c[0], c[1])
	}
}

// A square has its own root, as has all from it up to the next square; one below it is the root before.
func TestP401IntBySquares(t *testing.T) {
	for _, r := range sides() {
		r &= topRoot
		if r == 0 {
			continue
		}
		checkInt(t, r*r-1, r-1)
		checkInt(t, r*r, r)
		checkInt(t, r*r+1, r)
		checkInt(t, r*r+2*r, r)
	}
	for n, r := uint64(0), uint64(0); n < 5000; n++ {
		if (r+1)*(r+1) <= n {
			r++
		}
		checkInt(t, n, r)
	}
}

func TestP401Sqrt(t *testing.T) {
	for _, c := range [][2]api.Fix{
		{0, 0}, {1, 1 << 16}, {2, 92681}, {3, 113511}, {4, 2 << 16},
		{one - 1, one - 1}, {one, one}, {one + 1, one}, {one / 4, one / 2}, {4 * one, 2 * one}, {9 * one / 4, 3 * one / 2},
		{2 * one, 6074000999}, {3 * one, 7439101573}, {4*one - 1, 2*one - 1}, {4*one + 1, 2 * one},
		{1 << 62, 1 << 47}, {1<<62 - 1, 1<<47 - 1}, {most - 1, 199032864766430}, {most, 199032864766430},
	} {
		checkSqrt(t, c[0], c[1], api.OK)
	}
}

func TestP401SqrtBelow0(t *testing.T) {
	for _, a := range []api.Fix{-1, -2, -one, -4 * one, -most, lowest + 1, lowest} {
		checkSqrt(t, a, 0, api.ErrArg)
	}
}

func TestP401Len(t *testing.T) {
	for _, c := range [][3]api.Fix{
		{0, 0, 0}, {0, 1, 1}, {0, 7, 7}, {0, one, one}, {0, most, most},
		{1, 1, 1}, {1, 2, 2}, {2, 2, 2}, {2, 3, 3}, {3, 4, 5}, {5, 12, 13}, {3 * one, 4 * one, 5 * one}, {one, one, 6074000999},
		{1, 1 << 40, 1 << 40}, {20*one + 1, 21 * one, 29 * one},
	} {
		checkLen(t, c[0], c[1], c[2], api.OK)
	}
}

// The squares of these, and their sums, are far above what a Fix can be; the roots are not.
func TestP401LenOfGreatSquares(t *testing.T) {
	for _, c := range [][3]api.Fix{
		{3 << 32 << 16, 4 << 32 << 16, 5 << 32 << 16},
		{3 << 60, 1 << 62, 5 << 60},
		{1 << 62, 0, 1 << 62},
		{1 << 62, 1, 1 << 62},
		{1 << 62, 1 << 62, 6521908912666391106},
		{most, 0, most},
		{most, 1, most},
		{most - 1, 1, most - 1},
	} {
		checkLen(t, c[0], c[1], c[2], api.OK)
	}
}

// The last root that is a Fix, and the first that is none: of sums of squares close below 2^126, and from it on.
func TestP401LenAtTheEnd(t *testing.T) {
	checkLen(t, most, one-1, most, api.OK)
	checkLen(t, most, one, 0, api.ErrOver)
	checkLen(t, most, one+1, 0, api.ErrOver)
	checkLen(t, 6521908912666391106, 6521908912666391106, most, api.OK)
	checkLen(t, 6521908912666391106, 6521908912666391107, 0, api.ErrOver)
	checkLen(t, 6521908912666391107, 6521908912666391107, 0, api.ErrOver)
	checkLen(t, most, most, 0, api.ErrOver)
}

func TestP401LenOfTheLeast(t *testing.T) {
	// Its negative is no Fix, and so is no length.
	for _, y := range []api.Fix{0, 1, -1, one, most, lowest + 1, lowest} {
		checkLen(t, lowest, y, 0, api.ErrOver)
	}
	checkLen(t, lowest+1, 0, most, api.OK)
	checkLen(t, lowest+1, 1, most, api.OK)
	checkLen(t, lowest+2, 0, most-1, api.OK)
}

// Each call against numbers without a bound, over all that is by a power of 2 and a spread of others.
func TestP401AsExact(t *testing.T) {
	l := sides()
	for _, n := range l {
		checkInt(t, n, new(big.Int).Sqrt(new(big.Int).SetUint64(n)).Uint64())
		a := api.Fix(n &^ (1 << 63))
		wide := new(big.Int).Lsh(big.NewInt(int64(a)), 32)
		checkSqrt(t, a, api.Fix(wide.Sqrt(wide).Int64()), api.OK)
	}
	for _, x := range l {
		for _, y := range l {
			checkExactLen(t, api.Fix(x), api.Fix(y))
		}
	}
}

func checkExactLen(t *testing.T, x, y api.Fix) {
	t.Helper()
	a, b := big.NewInt(int64(x)), big.NewInt(int64(y))
	sum := new(big.Int).Add(a.Mul(a, a), b.Mul(b, b))
	sum.Sqrt(sum)
	want, wantErr := api.Fix(0), api.ErrOver
	if sum.IsInt64() {
		want, wantErr = api.Fix(sum.Int64()), api.OK
	}
	if got, err := Len(x, y); got != want || err != wantErr {
		t.Errorf("Len(%d, %d): %d, %d, not %d, %d", x, y, got, err, want, wantErr)
	}
}

// sides has 0, the greatest, all that is by a power of 2, and numbers of all lengths, the same ones each time.
func sides() []uint64 {
	l := []uint64{0, math.MaxUint64}
	for k := range 64 {
		p := uint64(1) << k
		l = append(l, p-1, p, p+1)
	}
	x := uint64(0x9E3779B97F4A7C15)
	for k := range 256 {
		x ^= x << 13
		x ^= x >> 7
		x ^= x << 17
		l = append(l, x>>(k%64))
	}
	return l
}
