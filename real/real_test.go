package real

import (
	"math"
	"math/big"
	"testing"

	"maquette/api"
)

const (
	most   = api.Fix(math.MaxInt64)
	lowest = api.Fix(math.MinInt64)
)

var (
	inf     = math.Inf(1)
	negZero = math.Copysign(0, -1)
)

// nans are of every make: quiet and signalling, of both signs, with least and greatest payloads.
func nans() []float64 {
	var list []float64
	for _, bits := range []uint64{
		0x7ff8000000000000, 0x7ff8000000000001, 0x7fffffffffffffff,
		0x7ff0000000000001, 0x7ff7ffffffffffff, 0x7ff4000000000000,
		0xfff8000000000000, 0xfff8000000000007, 0xffffffffffffffff,
		0xfff0000000000001, 0xfff7ffffffffffff,
	} {
		list = append(list, math.Float64frombits(bits))
	}
	return list
}

// rising are numbers that rise, each above the one ahead of it, both zeros among them.
func rising() []float64 {
	up := []float64{
		0, 5e-324, 1e-323, 0x1p-1030, 0x1p-1022 - 5e-324, 0x1p-1022, 0x1p-1021, 1e-300,
		0x1p-34, math.Nextafter(0x1p-33, 0), 0x1p-33, math.Nextafter(0x1p-33, 1), 0x1p-32, 3 * 0x1p-33,
		0.1, 1.0 / 3, 0.5, math.Nextafter(1, 0), 1, 1 + 0x1p-52, 1.5, 2, 1e9,
		math.Nextafter(1<<31, 0), 1 << 31, math.Nextafter(1<<31, inf), 1 << 32, 1 << 53, 1 << 63,
		0x1p64, 0x1p991, 0x1p992, 1e300, math.MaxFloat64, inf,
	}
	var list []float64
	for i := len(up) - 1; i >= 0; i-- {
		list = append(list, -up[i])
	}
	list[len(list)-1] = negZero
	return append(list, up...)
}

// spread are numbers of all exponents, with mantissas by a short rule.
func spread() []float64 {
	var list []float64
	seed := uint64(1)
	for e := uint64(0); e < 2047; e++ {
		for range 4 {
			seed = seed*6364136223846793005 + 1442695040888963407
			bits := seed&(1<<63|1<<52-1) | e<<52
			list = append(list, math.Float64frombits(bits))
		}
	}
	return list
}

func TestP201Class(t *testing.T) {
	for _, c := range []struct {
		f    float64
		want int
	}{
		{inf, 2}, {-inf, 3}, {0, 4}, {negZero, 5},
		{5e-324, 6}, {-5e-324, 6}, {0x1p-1030, 6}, {0x1p-1022 - 5e-324, 6}, {-0x1p-1022 + 5e-324, 6},
		{0x1p-1022, 7}, {-0x1p-1022, 7}, {1, 7}, {-1, 7}, {0.1, 7}, {math.MaxFloat64, 7}, {-math.MaxFloat64, 7},
	} {
		if got := Class(c.f); got != c.want {
			t.Errorf("Class(%x): %d, not %d", c.f, got, c.want)
		}
	}
	for _, f := range nans() {
		if got := Class(f); got != 1 {
			t.Errorf("Class of the NaN %x: %d", math.Float64bits(f), got)
		}
	}
}

func TestP201Get(t *testing.T) {
	const bit, half = 0x1p-32, 0x1p-33
	for _, c := range []struct {
		f    float64
		want api.Fix
		err  api.Errno
	}{
		{0.5, api.One / 2, api.OK}, {1, api.One, api.OK}, {-1, -api.One, api.OK}, {1.0 / 3, 1431655765, api.OK},
		{0, 0, api.OK}, {negZero, 0, api.OK}, {5e-324, 0, api.OK}, {-5e-324, 0, api.OK}, {0x1p-1022, 0, api.OK},
		{bit, 1, api.OK}, {-bit, -1, api.OK},
		{half, 0, api.OK}, {-half, 0, api.OK}, {3 * half, 2, api.OK}, {-3 * half, -2, api.OK}, {5 * half, 2, api.OK}, {-5 * half, -2, api.OK},
		{math.Nextafter(half, 1), 1, api.OK}, {math.Nextafter(half, 0), 0, api.OK},
		{math.Nextafter(-half, -1), -1, api.OK}, {math.Nextafter(-half, 0), 0, api.OK},
		{math.Nextafter(3*half, 0), 1, api.OK}, {math.Nextafter(5*half, 1), 3, api.OK},
		{1 + half, api.One, api.OK}, {1 + 3*half, api.One + 2, api.OK}, {-1 - 3*half, -api.One - 2, api.OK},
		{math.Nextafter(1<<31, 0), most - 1023, api.OK}, {-1 << 31, lowest, api.OK}, {math.Nextafter(-1<<31, 0), lowest + 1024, api.OK},
		{1 << 31, 0, api.ErrOver}, {math.Nextafter(-1<<31, -inf), 0, api.ErrOver},
		{1 << 63, 0, api.ErrOver}, {-1 << 63, 0, api.ErrOver}, {0x1p991, 0, api.ErrOver},
		{math.MaxFloat64, 0, api.ErrOver}, {-math.MaxFloat64, 0, api.ErrOver},
		{inf, 0, api.ErrInf}, {-inf, 0, api.ErrInf},
	} {
		if got, err := Get(c.f); got != c.want || err != c.err {
			t.Errorf("Get(%x): %d, %d, not %d, %d", c.f, got, err, c.want, c.err)
		}
	}
	for _, f := range nans() {
		if got, err := Get(f); got != 0 || err != api.ErrNaN {
			t.Errorf("Get of the NaN %x: %d, %d", math.Float64bits(f), got, err)
		}
	}
}

// nearest reckons Get of a number by numbers without a bound.
func nearest(f float64) (api.Fix, api.Errno) {
	exact := new(big.Rat).SetFloat64(f)
	exact.Mul(exact, new(big.Rat).SetInt64(1<<32))
	floor := new(big.Int).Div(exact.Num(), exact.Denom())
	rest := new(big.Rat).Sub(exact, new(big.Rat).SetInt(floor))
	side := rest.Cmp(big.NewRat(1, 2))
	if side > 0 || side == 0 && floor.Bit(0) == 1 {
		floor.Add(floor, big.NewInt(1))
	}
	if !floor.IsInt64() {
		return 0, api.ErrOver
	}
	return api.Fix(floor.Int64()), api.OK
}

func TestP201GetIsNearest(t *testing.T) {
	list := append(spread(), rising()...)
	for n := -200; n <= 200; n++ {
		middle := (float64(n) + 0.5) * 0x1p-32
		list = append(list, middle, math.Nextafter(middle, inf), math.Nextafter(middle, -inf))
		list = append(list, math.Ldexp(float64(n), -34), float64(n)*1e7+0x1p-30/3, -1<<31+math.Ldexp(float64(n), -22))
	}
	for _, f := range list {
		if math.IsInf(f, 0) {
			continue
		}
		got, err := Get(f)
		if want, wantErr := nearest(f); got != want || err != wantErr {
			t.Errorf("Get(%x): %d, %d, not %d, %d", f, got, err, want, wantErr)
		}
	}
}

func TestP201Put(t *testing.T) {
	for _, c := range []struct {
		a    api.Fix
		want float64
	}{
		{api.One / 2, 0.5}, {api.One, 1}, {-api.One, -1}, {1, 0x1p-32}, {-1, -0x1p-32}, {3 * api.One / 4, 0.75},
		{most, 1 << 31}, {most - 511, 1 << 31}, {most - 512, math.Nextafter(1<<31, 0)}, {lowest, -1 << 31}, {lowest + 512, -1 << 31},
		{1<<53 - 1, 0x1.fffffffffffffp20}, {1<<53 + 1, 0x1p21}, {1<<53 + 3, 0x1.0000000000002p21}, {-1<<53 - 1, -0x1p21}, {-1<<53 - 3, -0x1.0000000000002p21},
	} {
		if got := Put(c.a); got != c.want {
			t.Errorf("Put(%d): %x, not %x", c.a, got, c.want)
		}
	}
	if got := Put(0); got != 0 || math.Signbit(got) {
		t.Errorf("Put(0): %x, not +0", got)
	}
}

func TestP201PutIsNearest(t *testing.T) {
	list := []api.Fix{0, most, lowest}
	for shift := range 63 {
		for n := api.Fix(-3); n <= 3; n++ {
			a := api.Fix(1) << shift
			list = append(list, a+n, -a+n, most-a+n, lowest+a+n, 3*a/2+n)
		}
	}
	for _, a := range list {
		exact := new(big.Float).SetInt64(int64(a))
		want, _ := exact.SetMantExp(exact, -32).Float64()
		got := Put(a)
		if got != want {
			t.Errorf("Put(%d): %x, not %x", a, got, want)
		}
		if back, err := Get(got); a>>53 == a>>63 && (back != a || err != api.OK) {
			t.Errorf("Get(Put(%d)): %d, %d", a, back, err)
		}
	}
}

func TestP202Order(t *testing.T) {
	list := rising()
	for i, a := range list {
		for k, b := range list {
			want := 0
			if i < k {
				want = -1
			} else if i > k {
				want = 1
			}
			if got := Order(a, b); got != want {
				t.Errorf("Order(%x, %x): %d, not %d", a, b, got, want)
			}
		}
	}
	for _, nan := range nans() {
		for _, other := range nans() {
			if got := Order(nan, other); got != 0 {
				t.Errorf("Order of the NaNs %x and %x: %d", math.Float64bits(nan), math.Float64bits(other), got)
			}
		}
		for _, f := range list {
			if Order(nan, f) != -1 || Order(f, nan) != 1 {
				t.Errorf("the NaN %x beside %x: %d, %d", math.Float64bits(nan), f, Order(nan, f), Order(f, nan))
			}
		}
	}
}

func TestP202Same(t *testing.T) {
	list := append(nans(), rising()...)
	for i, a := range list {
		for k, b := range list {
			if got := Same(a, b); got != (i == k) {
				t.Errorf("Same of the bits %x and %x: %v", math.Float64bits(a), math.Float64bits(b), got)
			}
		}
	}
}

func TestP202Bytes(t *testing.T) {
	for _, c := range []struct {
		f    float64
		want string
	}{
		{1, "\x3f\xf0\x00\x00\x00\x00\x00\x00"},
		{0, "\x00\x00\x00\x00\x00\x00\x00\x00"},
		{negZero, "\x80\x00\x00\x00\x00\x00\x00\x00"},
		{inf, "\x7f\xf0\x00\x00\x00\x00\x00\x00"},
		{-inf, "\xff\xf0\x00\x00\x00\x00\x00\x00"},
		{5e-324, "\x00\x00\x00\x00\x00\x00\x00\x01"},
		{-math.MaxFloat64, "\xff\xef\xff\xff\xff\xff\xff\xff"},
		{math.Float64frombits(0x7ff0010203040506), "\x7f\xf0\x01\x02\x03\x04\x05\x06"},
		{math.Float64frombits(0xfedcba9876543210), "\xfe\xdc\xba\x98\x76\x54\x32\x10"},
	} {
		if got := Bytes(c.f); got != c.want {
			t.Errorf("Bytes(%x): %q, not %q", c.f, got, c.want)
		}
	}
}

func TestP202ReadBack(t *testing.T) {
	list := append(nans(), rising()...)
	for _, f := range append(list, spread()...) {
		got, is := Read(Bytes(f))
		if !is || math.Float64bits(got) != math.Float64bits(f) {
			t.Errorf("Read(Bytes) of the bits %x: %x, %v", math.Float64bits(f), math.Float64bits(got), is)
		}
	}
}

func TestP202ReadOfOtherLengths(t *testing.T) {
	text := "\x3f\xf0\x00\x00\x00\x00\x00\x00\x00\x00\x00\x00\x00\x00\x00\x00\x00"
	for n := range len(text) + 1 {
		got, is := Read(text[:n])
		if n == 8 {
			if got != 1 || !is {
				t.Errorf("Read of eight bytes: %x, %v", got, is)
			}
		} else if is || math.Float64bits(got) != 0 {
			t.Errorf("Read of %d bytes: %x, %v", n, got, is)
		}
	}
}
