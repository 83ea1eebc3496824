package fix

import (
	"math"
	"math/big"
	"testing"

	"maquette/api"
)

const (
	most   = api.Fix(math.MaxInt64)
	lowest = api.Fix(math.MinInt64)
)

type pairCase struct {
	a, b, want api.Fix
	err        api.Errno
}

type pairCall func(a, b api.Fix) (api.Fix, api.Errno)

func checkPairs(t *testing.T, name string, call pairCall, cases []pairCase) {
	t.Helper()
	for _, c := range cases {
		got, err := call(c.a, c.b)
		if got != c.want || err != c.err {
			t.Errorf("%s(%d, %d): %d, %d, not %d, %d", name, c.a, c.b, got, err, c.want, c.err)
		}
	}
}

func TestP101Add(t *testing.T) {
	checkPairs(t, "Add", Add, []pairCase{
		{api.One, api.One, 2 * api.One, api.OK},
		{-5, 3, -2, api.OK},
		{most, 0, most, api.OK},
		{most - 1, 1, most, api.OK},
		{lowest + 1, -1, lowest, api.OK},
		{lowest, most, -1, api.OK},
		{most, 1, 0, api.ErrOver},
		{1, most, 0, api.ErrOver},
		{most, most, 0, api.ErrOver},
		{lowest, -1, 0, api.ErrOver},
		{lowest, lowest, 0, api.ErrOver},
	})
}

func TestP101Sub(t *testing.T) {
	checkPairs(t, "Sub", Sub, []pairCase{
		{api.One, 3 * api.One, -2 * api.One, api.OK},
		{-5, -3, -2, api.OK},
		{most, most, 0, api.OK},
		{lowest, lowest, 0, api.OK},
		{-1, lowest, most, api.OK},
		{-1, most, lowest, api.OK},
		{0, lowest, 0, api.ErrOver},
		{-2, most, 0, api.ErrOver},
		{lowest, 1, 0, api.ErrOver},
		{most, -1, 0, api.ErrOver},
		{most, lowest, 0, api.ErrOver},
	})
}

func TestP101Mul(t *testing.T) {
	checkPairs(t, "Mul", Mul, []pairCase{
		{api.One, api.One, api.One, api.OK},
		{3 * api.One, -2 * api.One, -6 * api.One, api.OK},
		{api.One / 2, api.One / 2, api.One / 4, api.OK},
		{0, lowest, 0, api.OK},
		{most, api.One, most, api.OK},
		{lowest, api.One, lowest, api.OK},
		{most, -api.One, -most, api.OK},
		{1 << 47, -1 << 48, lowest, api.OK},
		{lowest, -api.One, 0, api.ErrOver},
		{1 << 47, 1 << 48, 0, api.ErrOver},
		{most, api.One + 1, 0, api.ErrOver},
		{most, most, 0, api.ErrOver},
		{lowest, lowest, 0, api.ErrOver},
		{lowest, most, 0, api.ErrOver},
	})
}

// What is behind the 32nd bit goes towards 0, of a negative product too.
func TestP101MulCuts(t *testing.T) {
	checkPairs(t, "Mul", Mul, []pairCase{
		{3, api.One / 2, 1, api.OK},
		{-3, api.One / 2, -1, api.OK},
		{3, -api.One / 2, -1, api.OK},
		{-3, -api.One / 2, 1, api.OK},
		{1, 1, 0, api.OK},
		{-1, 1, 0, api.OK},
		{1, api.One - 1, 0, api.OK},
		{-1, api.One - 1, 0, api.OK},
	})
}

// A product less than a bit below the least Fix is that one: it is cut ahead of being held against the ends.
func TestP101CutAheadOfOver(t *testing.T) {
	// Its size, times 2^32: 2^95 and 2^31 and 1.
	a, b := most-1<<31+2, api.One+1
	checkPairs(t, "Mul", Mul, []pairCase{
		{a, -b, lowest, api.OK},
		{-a, b, lowest, api.OK},
		{a, b, 0, api.ErrOver},
		{-a, -b, 0, api.ErrOver},
		{a + 1, -b, 0, api.ErrOver},
	})
}

func TestP101Div(t *testing.T) {
	checkPairs(t, "Div", Div, []pairCase{
		{6 * api.One, 3 * api.One, 2 * api.One, api.OK},
		{6 * api.One, -3 * api.One, -2 * api.One, api.OK},
		{0, lowest, 0, api.OK},
		{most, api.One, most, api.OK},
		{lowest, api.One, lowest, api.OK},
		{lowest, lowest, api.One, api.OK},
		{most, lowest, -api.One + 1, api.OK},
		{api.One, -2, lowest, api.OK},
		{-api.One, 2, lowest, api.OK},
		{api.One - 1, 2, most - 1<<31 + 1, api.OK},
		{most - 1<<31 + 1, -(api.One - 1), lowest, api.OK},
		{most - 1<<31 + 1, api.One - 1, 0, api.ErrOver},
		{lowest, -api.One, 0, api.ErrOver},
		{api.One, 2, 0, api.ErrOver},
		{api.One, 1, 0, api.ErrOver},
		{-api.One, 1, 0, api.ErrOver},
		{most, 1, 0, api.ErrOver},
		{lowest, 1, 0, api.ErrOver},
		{lowest, -1, 0, api.ErrOver},
		{most, api.One - 1, 0, api.ErrOver},
	})
}

func TestP101DivCuts(t *testing.T) {
	checkPairs(t, "Div", Div, []pairCase{
		{api.One, 3 * api.One, 1431655765, api.OK},
		{-api.One, 3 * api.One, -1431655765, api.OK},
		{api.One, -3 * api.One, -1431655765, api.OK},
		{-api.One, -3 * api.One, 1431655765, api.OK},
		{7, 2 * api.One, 3, api.OK},
		{-7, 2 * api.One, -3, api.OK},
		{1, 2 * api.One, 0, api.OK},
		{-1, 2 * api.One, 0, api.OK},
	})
}

func TestP101DivByZero(t *testing.T) {
	for _, a := range edges() {
		if got, err := Div(a, 0); got != 0 || err != api.ErrZero {
			t.Errorf("Div(%d, 0): %d, %d, not 0, %d", a, got, err, api.ErrZero)
		}
	}
}

func TestP101Neg(t *testing.T) {
	for _, a := range edges() {
		got, err := Neg(a)
		want, wantErr := fixOf(new(big.Int).Neg(big.NewInt(int64(a))))
		if got != want || err != wantErr {
			t.Errorf("Neg(%d): %d, %d, not %d, %d", a, got, err, want, wantErr)
		}
	}
	if got, err := Neg(lowest); got != 0 || err != api.ErrOver {
		t.Errorf("Neg of the least: %d, %d", got, err)
	}
}

func TestP101Of(t *testing.T) {
	cases := []struct {
		n    int
		want api.Fix
		err  api.Errno
	}{
		{0, 0, api.OK},
		{1, api.One, api.OK},
		{-3, -3 * api.One, api.OK},
		{1<<31 - 1, (1<<31 - 1) << 32, api.OK},
		{-1 << 31, lowest, api.OK},
		{1 << 31, 0, api.ErrOver},
		{-1<<31 - 1, 0, api.ErrOver},
		{1 << 32, 0, api.ErrOver},
		{1<<32 + 1, 0, api.ErrOver},
		{-1 << 32, 0, api.ErrOver},
		{math.MaxInt, 0, api.ErrOver},
		{math.MinInt, 0, api.ErrOver},
	}
	for _, c := range cases {
		if got, err := Of(c.n); got != c.want || err != c.err {
			t.Errorf("Of(%d): %d, %d, not %d, %d", c.n, got, err, c.want, c.err)
		}
	}
}

func TestP101Whole(t *testing.T) {
	cases := []struct {
		a    api.Fix
		want int
	}{
		{0, 0},
		{1, 0},
		{api.One - 1, 0},
		{api.One, 1},
		{5*api.One + 7, 5},
		{-1, -1},
		{-api.One + 1, -1},
		{-api.One, -1},
		{-api.One - 1, -2},
		{-5*api.One - 7, -6},
		{most, 1<<31 - 1},
		{lowest, -1 << 31},
		{lowest + 1, -1 << 31},
	}
	for _, c := range cases {
		if got := Whole(c.a); got != c.want {
			t.Errorf("Whole(%d): %d, not %d", c.a, got, c.want)
		}
	}
}

// Each call of two numbers against numbers without a bound, over all pairs of edges and of a spread of others.
func TestP101AsExact(t *testing.T) {
	l := append(edges(), spread(200)...)
	for _, a := range l {
		for _, b := range l {
			checkOne(t, "Add", Add, a, b, func(x, y *big.Int) *big.Int { return new(big.Int).Add(x, y) })
			checkOne(t, "Sub", Sub, a, b, func(x, y *big.Int) *big.Int { return new(big.Int).Sub(x, y) })
			checkOne(t, "Mul", Mul, a, b, exactMul)
			if b != 0 {
				checkOne(t, "Div", Div, a, b, exactDiv)
			}
		}
	}
}

func exactMul(x, y *big.Int) *big.Int {
	p := new(big.Int).Mul(x, y)
	return p.Quo(p, big.NewInt(int64(api.One)))
}

func exactDiv(x, y *big.Int) *big.Int {
	n := new(big.Int).Mul(x, big.NewInt(int64(api.One)))
	return n.Quo(n, y)
}

func checkOne(t *testing.T, name string, call pairCall, a, b api.Fix, exact func(x, y *big.Int) *big.Int) {
	t.Helper()
	want, wantErr := fixOf(exact(big.NewInt(int64(a)), big.NewInt(int64(b))))
	if got, err := call(a, b); got != want || err != wantErr {
		t.Errorf("%s(%d, %d): %d, %d, not %d, %d", name, a, b, got, err, want, wantErr)
	}
}

func fixOf(n *big.Int) (api.Fix, api.Errno) {
	if !n.IsInt64() {
		return 0, api.ErrOver
	}
	return api.Fix(n.Int64()), api.OK
}

// edges has all that is by a power of 2, of either sign, and the ends.
func edges() []api.Fix {
	l := []api.Fix{0, most, most - 1, lowest, lowest + 1, lowest + 2}
	for k := range 63 {
		p := api.Fix(1) << k
		l = append(l, p-1, p, p+1, -p-1, -p, -p+1)
	}
	return l
}

// spread has n numbers of all lengths, the same ones each time.
func spread(n int) []api.Fix {
	var l []api.Fix
	x := uint64(0x9E3779B97F4A7C15)
	for k := range n {
		x ^= x << 13
		x ^= x >> 7
		x ^= x << 17
		l = append(l, api.Fix(x)>>(k%64))
	}
	return l
}
