package calc

import (
	"errors"
	"math"
	"math/big"
	"runtime"
	"slices"
	"testing"

	"maquette/api"
	"maquette/fix"
)

const (
	one    = api.One
	most   = api.Fix(math.MaxInt64)
	lowest = api.Fix(math.MinInt64)
)

// call is one of the four: as calc has it, and as fix has it.
type call struct {
	name string
	calc func(a, b api.Fix) api.Fix
	fix  func(a, b api.Fix) (api.Fix, api.Errno)
}

func calls() []call {
	return []call{{"Add", Add, fix.Add}, {"Sub", Sub, fix.Sub}, {"Mul", Mul, fix.Mul}, {"Div", Div, fix.Div}}
}

// thrown is what f panics with; nil, if it does not.
func thrown(f func()) (v any) {
	defer func() { v = recover() }()
	f()
	return nil
}

// numbers are the ends of a Fix, 0, and what lies about them, and some of a short rule.
func numbers() []api.Fix {
	list := []api.Fix{
		0, 1, -1, 2, -2, 3, -7, one, -one, one + 1, one - 1, 2 * one, one / 2, -one / 3, 1 << 47, -1 << 47, 1 << 48, 1000 * one,
		most, most - 1, most / 2, most/2 + 1, lowest, lowest + 1, lowest / 2, lowest/2 - 1,
	}
	seed := uint64(1)
	for i := range 40 {
		seed = seed*6364136223846793005 + 1442695040888963407
		list = append(list, api.Fix(seed)>>i)
	}
	return list
}

// exact is the sum of the products without a bound, each cut towards 0; fits tells whether all sums on the way, and all products, are Fixes.
func exact(a, b []api.Fix) (sum *big.Int, fits bool) {
	sum, fits = new(big.Int), true
	for i := range a {
		p := new(big.Int).Mul(big.NewInt(int64(a[i])), big.NewInt(int64(b[i])))
		p.Quo(p, big.NewInt(int64(one)))
		fits = fits && p.IsInt64()
		sum.Add(sum, p)
		fits = fits && sum.IsInt64()
	}
	return sum, fits
}

// ones are n times One.
func ones(n int) []api.Fix { return slices.Repeat([]api.Fix{one}, n) }

func TestP301CallsAnswerAsFixDoes(t *testing.T) {
	for _, c := range calls() {
		for _, a := range numbers() {
			for _, b := range numbers() {
				want, err := c.fix(a, b)
				var got api.Fix
				v := thrown(func() { got = c.calc(a, b) })
				if err == api.OK && (v != nil || got != want) {
					t.Fatalf("%s(%d, %d): %d, panic %v, not %d", c.name, a, b, got, v, want)
				}
				if err != api.OK && v != (Fault{Errno: err}) {
					t.Fatalf("%s(%d, %d): %d, panic %v, not a Fault of %d", c.name, a, b, got, v, err)
				}
			}
		}
	}
}

func TestP301CallsByHand(t *testing.T) {
	for _, x := range []struct {
		name      string
		got, want api.Fix
	}{
		{"Add", Add(2*one, -5*one), -3 * one},
		{"Add to the end", Add(most-1, 1), most},
		{"Sub", Sub(2*one, 5*one), -3 * one},
		{"Sub to the end", Sub(-1, most), lowest},
		{"Sub of the least", Sub(-1, lowest), most},
		{"Mul", Mul(one/2, -3*one), -3 * one / 2},
		{"Mul towards 0", Mul(-1, 1), 0},
		{"Div", Div(one, -4*one), -one / 4},
		{"Div towards 0", Div(-1, 2*one), 0},
		{"Div of 0", Div(0, lowest), 0},
	} {
		if x.got != x.want {
			t.Errorf("%s: %d, not %d", x.name, x.got, x.want)
		}
	}
}

func TestP301FaultsByHand(t *testing.T) {
	for _, x := range []struct {
		name string
		f    func()
		want api.Errno
	}{
		{"Add above", func() { Add(most, 1) }, api.ErrOver},
		{"Add below", func() { Add(lowest, -1) }, api.ErrOver},
		{"Sub above", func() { Sub(0, lowest) }, api.ErrOver},
		{"Sub below", func() { Sub(-2, most) }, api.ErrOver},
		{"Mul above", func() { Mul(1<<47*2, 1<<48) }, api.ErrOver},
		{"Mul below", func() { Mul(lowest, one+1) }, api.ErrOver},
		{"Div above", func() { Div(most, one-1) }, api.ErrOver},
		{"Div below", func() { Div(lowest, 1) }, api.ErrOver},
		{"Div by 0", func() { Div(1, 0) }, api.ErrZero},
		{"Div of 0 by 0", func() { Div(0, 0) }, api.ErrZero},
	} {
		if v := thrown(x.f); v != (Fault{Errno: x.want}) {
			t.Errorf("%s: panic %v, not a Fault of %d", x.name, v, x.want)
		}
		if err := Try(x.f); err != x.want {
			t.Errorf("Try of %s: %d, not %d", x.name, err, x.want)
		}
	}
}

func TestP301TryWithoutFault(t *testing.T) {
	done := 0
	if err := Try(func() { done += int(Add(3, 4)) }); err != api.OK || done != 7 {
		t.Errorf("%d, done %d", err, done)
	}
	if err := Try(func() {}); err != api.OK {
		t.Error(err)
	}
}

func TestP301TryOfNil(t *testing.T) {
	var f func()
	if v := thrown(func() {
		if err := Try(f); err != api.ErrArg {
			t.Error(err)
		}
	}); v != nil {
		t.Errorf("panic %v", v)
	}
}

func TestP301TryTellsEveryErrno(t *testing.T) {
	for _, want := range []api.Errno{api.OK, api.ErrNaN, api.ErrOver, api.ErrZero, api.ErrArg, api.ErrUsed, 77, -1} {
		if err := Try(func() { panic(Fault{Errno: want}) }); err != want {
			t.Errorf("%d, not %d", err, want)
		}
	}
}

func TestP301TryKeepsWhatWasDone(t *testing.T) {
	var done []string
	err := Try(func() {
		defer func() { done = append(done, "deferred") }()
		done = append(done, "ahead")
		Div(1, 0)
		done = append(done, "behind")
	})
	if err != api.ErrZero || !slices.Equal(done, []string{"ahead", "deferred"}) {
		t.Errorf("%d, done %q", err, done)
	}
}

func TestP301TryTellsTheFirstFault(t *testing.T) {
	if err := Try(func() { Add(most, 1); Div(1, 0) }); err != api.ErrOver {
		t.Error(err)
	}
	if err := Try(func() { Div(1, 0); Add(most, 1) }); err != api.ErrZero {
		t.Error(err)
	}
}

func TestP301TryWithinTry(t *testing.T) {
	var inner api.Errno
	done := 0
	outer := Try(func() {
		inner = Try(func() { Div(1, 0); done++ })
		done += 10
	})
	if outer != api.OK || inner != api.ErrZero || done != 10 {
		t.Errorf("the inner one caught: %d, %d, done %d", outer, inner, done)
	}
	outer = Try(func() {
		inner = Try(func() { done += 100 })
		Add(most, 1)
		done++
	})
	if outer != api.ErrOver || inner != api.OK || done != 110 {
		t.Errorf("a fault behind the inner one: %d, %d, done %d", outer, inner, done)
	}
	outer = Try(func() {
		inner = Try(func() { Add(most, 1) })
		Div(1, 0)
	})
	if outer != api.ErrZero || inner != api.ErrOver {
		t.Errorf("a fault in each: %d, %d", outer, inner)
	}
}

func TestP301TryAgain(t *testing.T) {
	for range 3 {
		if err := Try(func() { Div(1, 0) }); err != api.ErrZero {
			t.Error(err)
		}
		if err := Try(func() { Div(1, one) }); err != api.OK {
			t.Error(err)
		}
	}
}

func TestP301AnotherPanicGoesOn(t *testing.T) {
	type own struct{ Errno api.Errno }
	for _, want := range []any{
		"mine", 7, 0, api.ErrOver, api.OK, own{api.ErrZero}, &own{api.ErrZero}, &Fault{api.ErrOver}, struct{ Fault }{Fault{api.ErrOver}}, errors.New("e"), false,
	} {
		done := 0
		v := thrown(func() { done++; Try(func() { done += 10; panic(want) }); done += 100 })
		if v != want || done != 11 {
			t.Errorf("%v of %T: %v of %T, done %d", want, want, v, v, done)
		}
		v = thrown(func() { Try(func() { Try(func() { panic(want) }) }) })
		if v != want {
			t.Errorf("through two: %v of %T: %v of %T", want, want, v, v)
		}
	}
}

func TestP301ThePanicsOfTheLanguageGoOn(t *testing.T) {
	var list []int
	if _, is := thrown(func() { Try(func() { list[0]++ }) }).(runtime.Error); !is {
		t.Error("a place behind the end of a list")
	}
	if _, is := thrown(func() { Try(func() { panic(nil) }) }).(*runtime.PanicNilError); !is {
		t.Error("a panic of nil")
	}
	same := []int{1}
	v, is := thrown(func() { Try(func() { panic(same) }) }).([]int)
	if !is || &v[0] != &same[0] {
		t.Error("what cannot be compared")
	}
}

func TestP301Sum(t *testing.T) {
	many := make([]api.Fix, 10000)
	for i := range many {
		many[i] = api.Fix(i) * 1000
	}
	for _, x := range []struct {
		name string
		l    []api.Fix
		want api.Fix
		err  api.Errno
	}{
		{"none", nil, 0, api.OK},
		{"none of a list", []api.Fix{}, 0, api.OK},
		{"one", []api.Fix{-5}, -5, api.OK},
		{"the least", []api.Fix{lowest}, lowest, api.OK},
		{"the greatest", []api.Fix{most}, most, api.OK},
		{"some", []api.Fix{1, 2, -5}, -2, api.OK},
		{"many", many, 9999 * 5000 * 1000, api.OK},
		{"both ends", []api.Fix{most, lowest, most, lowest}, -2, api.OK},
		{"just within", []api.Fix{most, -1, 1}, most, api.OK},
		{"too great at the first that can be", []api.Fix{most, 1, -1}, 0, api.ErrOver},
		{"too great at the middle, though the whole is not", []api.Fix{1, 2, most, -most, 5}, 0, api.ErrOver},
		{"too great at the last", []api.Fix{1, 2, 3, most - 5}, 0, api.ErrOver},
		{"as great as may be at the last", []api.Fix{1, 2, 3, most - 6}, most, api.OK},
		{"too small", []api.Fix{-most, -2, 5}, 0, api.ErrOver},
		{"as small as may be", []api.Fix{-most, -1, 5}, lowest + 5, api.OK},
	} {
		if got, err := Sum(x.l...); got != x.want || err != x.err {
			t.Errorf("%s: %d, %d, not %d, %d", x.name, got, err, x.want, x.err)
		}
	}
}

func TestP301Dot(t *testing.T) {
	for _, x := range []struct {
		name string
		a, b []api.Fix
		want api.Fix
		err  api.Errno
	}{
		{"none", nil, nil, 0, api.OK},
		{"none of a list", []api.Fix{}, nil, 0, api.OK},
		{"one", []api.Fix{2 * one}, []api.Fix{-3 * one}, -6 * one, api.OK},
		{"some", []api.Fix{one, 2, one / 2}, []api.Fix{3, one, -8}, 1, api.OK},
		{"each product is cut, not their sum", []api.Fix{one / 2, one / 2}, []api.Fix{1, 1}, 0, api.OK},
		{"each product is cut towards 0", []api.Fix{one / 2, one / 2}, []api.Fix{-1, -3}, -1, api.OK},
		{"many", ones(5000), ones(5000), 5000 * one, api.OK},
		{"a product too great at the first", []api.Fix{most, 0, 0}, []api.Fix{2 * one, one, one}, 0, api.ErrOver},
		{"a product too great at the middle", []api.Fix{one, most, one}, []api.Fix{one, -2 * one, one}, 0, api.ErrOver},
		{"a product too great at the last", []api.Fix{one, one, lowest}, []api.Fix{one, one, -one}, 0, api.ErrOver},
		{"a sum too great at the first that can be", []api.Fix{most, 1, -1}, ones(3), 0, api.ErrOver},
		{"a sum too great at the middle, though the whole is not", []api.Fix{1, most, -most, 3}, ones(4), 0, api.ErrOver},
		{"a sum too great at the last", []api.Fix{1, 2, most - 2}, ones(3), 0, api.ErrOver},
		{"as great as may be at the last", []api.Fix{1, 2, most - 3}, ones(3), most, api.OK},
		{"a sum too small", []api.Fix{lowest, 1}, []api.Fix{one, -one}, 0, api.ErrOver},
		{"0 times the greatest", []api.Fix{0, most}, []api.Fix{most, 0}, 0, api.OK},
		{"one and none", []api.Fix{1}, nil, 0, api.ErrArg},
		{"none and one", nil, []api.Fix{1}, 0, api.ErrArg},
		{"two and three", ones(2), ones(3), 0, api.ErrArg},
		{"three and two", ones(3), ones(2), 0, api.ErrArg},
		{"not as many, and too great", []api.Fix{most, most}, []api.Fix{most}, 0, api.ErrArg},
	} {
		if got, err := Dot(x.a, x.b); got != x.want || err != x.err {
			t.Errorf("%s: %d, %d, not %d, %d", x.name, got, err, x.want, x.err)
		}
	}
}

func TestP301SumAndDotAgainstExactNumbers(t *testing.T) {
	all := numbers()
	for i := range all {
		for n := range 6 {
			a, b := make([]api.Fix, n), make([]api.Fix, n)
			for k := range n {
				a[k], b[k] = all[(i+7*k)%len(all)], all[(i*3+11*k+n)%len(all)]
			}
			wantDot, fits := exact(a, b)
			got, err := Dot(a, b)
			check(t, "Dot", a, b, got, err, wantDot, fits)
			wantSum, fits := exact(a, ones(n))
			got, err = Sum(a...)
			check(t, "Sum", a, nil, got, err, wantSum, fits)
		}
	}
}

// check holds an answer against the exact one.
func check(t *testing.T, name string, a, b []api.Fix, got api.Fix, err api.Errno, want *big.Int, fits bool) {
	t.Helper()
	if fits && (err != api.OK || want.Cmp(big.NewInt(int64(got))) != 0) {
		t.Errorf("%s(%v, %v): %d, %d, not %v", name, a, b, got, err, want)
	}
	if !fits && (err != api.ErrOver || got != 0) {
		t.Errorf("%s(%v, %v): %d, %d, not 0, ErrOver", name, a, b, got, err)
	}
}

func TestP301ListsAreNotWritten(t *testing.T) {
	a, b := []api.Fix{one, 2, most}, []api.Fix{3, one, most}
	a2, b2 := slices.Clone(a), slices.Clone(b)
	Sum(a...)
	Dot(a, b)
	if !slices.Equal(a, a2) || !slices.Equal(b, b2) {
		t.Errorf("%v, %v", a, b)
	}
}
