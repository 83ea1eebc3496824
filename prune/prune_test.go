package prune

import (
	"math"
	"slices"
	"testing"

	"maquette/api"
	"maquette/bounds"
)

const (
	one    = api.One
	most   = api.Fix(math.MaxInt64)
	lowest = api.Fix(math.MinInt64)
)

// box is one by its Low's X and Y, then its High's.
func box(a, b, c, d api.Fix) api.Box {
	return api.Box{Low: api.Vec{X: a, Y: b}, High: api.Vec{X: c, Y: d}}
}

// turned is a box with X and Y in each other's place.
func turned(b api.Box) api.Box { return box(b.Low.Y, b.Low.X, b.High.Y, b.High.X) }

// from are boxes of these Low.X; what must not count lies the other way round.
func from(lows ...api.Fix) []api.Box {
	var l []api.Box
	for i, x := range lows {
		away := api.Fix(-i)
		l = append(l, box(x, away, away*one, away*one))
	}
	return l
}

// pairs are A and B of each, in a row.
func pairs(l ...int) []api.Pair {
	var told []api.Pair
	for i := 0; i < len(l); i += 2 {
		told = append(told, api.Pair{A: l[i], B: l[i+1]})
	}
	return told
}

// checkSorted holds Sorted against a list; l must stay as it is.
func checkSorted(t *testing.T, l []api.Box, want ...int) {
	t.Helper()
	ahead := slices.Clone(l)
	if got := Sorted(l...); !slices.Equal(got, want) {
		t.Errorf("Sorted(%d): %d, not %d", l, got, want)
	}
	if !slices.Equal(l, ahead) {
		t.Errorf("Sorted(%d) wrote %d", ahead, l)
	}
}

// checkPairs holds Pairs against a list; l must stay as it is.
func checkPairs(t *testing.T, l []api.Box, want []api.Pair) {
	t.Helper()
	ahead := slices.Clone(l)
	if got := Pairs(l...); !slices.Equal(got, want) {
		t.Errorf("Pairs(%d): %d, not %d", l, got, want)
	}
	if !slices.Equal(l, ahead) {
		t.Errorf("Pairs(%d) wrote %d", ahead, l)
	}
}

// checkTwo wants that Pairs tells two boxes, or does not, both ways round, with X and Y as they are, and in each other's place.
func checkTwo(t *testing.T, a, b api.Box, meet bool) {
	t.Helper()
	var want []api.Pair
	if meet {
		want = pairs(0, 1)
	}
	for range 2 {
		checkPairs(t, []api.Box{a, b}, want)
		checkPairs(t, []api.Box{b, a}, want)
		a, b = turned(a), turned(b)
	}
}

// byMeet is what Pairs must tell, by asking Meet of each two.
func byMeet(l []api.Box) []api.Pair {
	var told []api.Pair
	for a := range l {
		for b := a + 1; b < len(l); b++ {
			if bounds.Meet(l[a], l[b]) {
				told = append(told, api.Pair{A: a, B: b})
			}
		}
	}
	return told
}

// byCount is what Sorted must tell: each place stands behind as many as go ahead of it.
func byCount(l []api.Box) []int {
	told := make([]int, len(l))
	for i, b := range l {
		ahead := 0
		for j, c := range l {
			if c.Low.X < b.Low.X || c.Low.X == b.Low.X && j < i {
				ahead++
			}
		}
		told[ahead] = i
	}
	return told
}

// inAllOrders calls f with l in each order in which it can be told.
func inAllOrders(l []api.Box, f func([]api.Box)) {
	var place func(n int)
	place = func(n int) {
		if n == len(l) {
			f(l)
			return
		}
		for i := n; i < len(l); i++ {
			l[n], l[i] = l[i], l[n]
			place(n + 1)
			l[n], l[i] = l[i], l[n]
		}
	}
	place(0)
}

// scattered are n boxes whose corners lie from 0 to below span, and may be turned inside out; the same for the same seed.
func scattered(n int, span, seed uint64) []api.Box {
	next := func() api.Fix {
		seed = seed*6364136223846793005 + 1442695040888963407
		return api.Fix(seed >> 33 % span)
	}
	var l []api.Box
	for range n {
		l = append(l, box(next(), next(), next(), next()))
	}
	return l
}

func TestP901SortedOfNoneAndOne(t *testing.T) {
	checkSorted(t, nil)
	checkSorted(t, []api.Box{})
	if got := Sorted(); len(got) != 0 {
		t.Errorf("Sorted(): %d", got)
	}
	checkSorted(t, from(0), 0)
	checkSorted(t, from(-7*one), 0)
	checkSorted(t, []api.Box{box(lowest, lowest, most, most)}, 0)
	checkSorted(t, []api.Box{box(most, most, lowest, lowest)}, 0)
}

func TestP901Sorted(t *testing.T) {
	checkSorted(t, from(1, 2, 3, 4, 5), 0, 1, 2, 3, 4)
	checkSorted(t, from(5, 4, 3, 2, 1), 4, 3, 2, 1, 0)
	checkSorted(t, from(3, -1, 4, -5, 0), 3, 1, 4, 0, 2)
	checkSorted(t, from(one, -one, 0, one-1, one+1, -one-1), 5, 1, 2, 3, 0, 4)
}

func TestP901SortedAtTheEnds(t *testing.T) {
	checkSorted(t, from(lowest, most), 0, 1)
	checkSorted(t, from(most, lowest), 1, 0)
	checkSorted(t, from(most, 0, lowest, -1, 1), 2, 3, 1, 4, 0)
	checkSorted(t, from(most, most-1, lowest+1, lowest, most, lowest), 3, 5, 2, 1, 0, 4)
}

func TestP901SortedOfTheSame(t *testing.T) {
	checkSorted(t, from(5, -5, 5, 9, -9, -5), 4, 1, 5, 0, 2, 3)
	for _, x := range []api.Fix{lowest, -1, 0, one, most} {
		checkSorted(t, from(x, x, x, x), 0, 1, 2, 3)
		b := box(x, x, x, x)
		checkSorted(t, []api.Box{b, b, b}, 0, 1, 2)
	}
}

// Low.Y and High count for nothing, neither ahead of Low.X nor behind it.
func TestP901SortedByLowXAlone(t *testing.T) {
	rest := []api.Fix{lowest, -one, 0, 1, most}
	for _, r := range rest {
		for _, s := range rest {
			checkSorted(t, []api.Box{box(1, r, s, r), box(2, s, r, s)}, 0, 1)
			checkSorted(t, []api.Box{box(2, r, s, r), box(1, s, r, s)}, 1, 0)
			checkSorted(t, []api.Box{box(7, r, s, r), box(7, s, r, s)}, 0, 1)
			checkSorted(t, []api.Box{box(7, r, s, s), box(7, s, r, r), box(6, 0, 0, 0)}, 2, 0, 1)
		}
	}
}

func TestP901SortedInAllOrders(t *testing.T) {
	inAllOrders(append(from(2, 0, most, lowest, -1), from(2)...), func(l []api.Box) { checkSorted(t, l, byCount(l)...) })
	inAllOrders([]api.Box{box(1, 1, 0, 9), box(1, 2, 5, 8), box(1, 3, -5, 7), box(0, 9, 9, 9), box(0, 8, 8, 8)}, func(l []api.Box) { checkSorted(t, l, byCount(l)...) })
}

// So many of so few different Low.X that places decide often.
func TestP901SortedOfMany(t *testing.T) {
	for _, n := range []int{12, 13, 40, 100, 500} {
		for _, span := range []uint64{1, 2, 7, 1000} {
			l := scattered(n, span, uint64(n))
			checkSorted(t, l, byCount(l)...)
		}
	}
	var falling []api.Box
	for i := range 200 {
		falling = append(falling, box(api.Fix(-i/3), api.Fix(i), api.Fix(i), 0))
	}
	checkSorted(t, falling, byCount(falling)...)
}

func TestP901PairsOfNoneAndOne(t *testing.T) {
	checkPairs(t, nil, nil)
	checkPairs(t, []api.Box{}, nil)
	if got := Pairs(); len(got) != 0 {
		t.Errorf("Pairs(): %d", got)
	}
	for _, b := range []api.Box{{}, box(0, 0, 9, 9), box(9, 9, 0, 0), box(lowest, lowest, most, most)} {
		checkPairs(t, []api.Box{b}, nil)
	}
}

func TestP901PairsExample(t *testing.T) {
	checkPairs(t, []api.Box{box(0, 0, 2*one, 0), box(one, 0, 3*one, 0), box(5*one, 0, 6*one, 0)}, pairs(0, 1))
	checkPairs(t, []api.Box{box(5, 0, 6, 0), box(1, 0, 3, 0), box(0, 0, 2, 0)}, pairs(1, 2))
	checkPairs(t, []api.Box{box(1, 0, 3, 0), box(5, 0, 6, 0), box(0, 0, 2, 0)}, pairs(0, 2))
}

func TestP901PairsThatMeet(t *testing.T) {
	a := box(0, 0, 10, 20)
	for _, b := range []api.Box{
		a,
		box(3, 4, 5, 6), box(-9, -9, 99, 99), // one within the other
		box(5, 5, 15, 25), box(-5, 15, 5, 25), box(-5, 5, 15, 6), // they overlap
		box(10, 3, 30, 9), box(-30, 3, 0, 9), box(3, 20, 9, 40), box(3, -40, 9, 0), // an edge alone
		box(10, 20, 30, 40), box(-5, -5, 0, 0), box(-5, 20, 0, 40), box(10, -5, 30, 0), // a corner alone
		box(5, 5, 5, 5), box(0, 0, 0, 0), box(10, 20, 10, 20), // a place
		box(lowest, lowest, most, most),
	} {
		checkTwo(t, a, b, true)
	}
	checkTwo(t, box(lowest, 0, lowest, 0), box(lowest, 0, lowest, 0), true)
	checkTwo(t, box(most, 0, most, 0), box(lowest, 0, most, 0), true)
	checkTwo(t, box(lowest, 0, -1, 0), box(-1, 0, most, 0), true)
}

func TestP901PairsThatDoNotMeet(t *testing.T) {
	a := box(0, 0, 10, 20)
	for _, b := range []api.Box{
		box(11, 0, 30, 20), box(-30, 0, -1, 20), // a bit apart in X alone
		box(0, 21, 10, 40), box(0, -40, 10, -1), // a bit apart in Y alone
		box(11, 21, 30, 40), box(-30, -40, -1, -1), box(11, -40, 30, -1), // in both
		box(11, 5, 11, 5), box(5, -1, 5, -1), // a place
		box(most, 0, most, 20), box(0, lowest, 10, lowest),
	} {
		checkTwo(t, a, b, false)
	}
	checkTwo(t, box(lowest, 0, lowest, 0), box(lowest+1, 0, most, 0), false)
	checkTwo(t, box(most, 0, most, 0), box(lowest, 0, most-1, 0), false)
	checkTwo(t, box(lowest, 0, -1, 0), box(0, 0, most, 0), false)
}

// A box meets nobody by itself; told more than once, it meets each of the others.
func TestP901PairsOfTheSame(t *testing.T) {
	for _, b := range []api.Box{{}, box(0, 0, 9, 9), box(-one, 5, one, 5), box(lowest, lowest, most, most), box(most, lowest, most, lowest)} {
		checkPairs(t, []api.Box{b, b}, pairs(0, 1))
		checkPairs(t, []api.Box{b, b, b, b}, pairs(0, 1, 0, 2, 0, 3, 1, 2, 1, 3, 2, 3))
	}
	far, near := box(5, 5, 6, 6), box(0, 0, 1, 1)
	checkPairs(t, []api.Box{far, near, far, near}, pairs(0, 2, 1, 3))
}

// One that meets nobody in between hides nobody behind it.
func TestP901PairsPastOthers(t *testing.T) {
	checkPairs(t, []api.Box{box(0, 0, 100, 1), box(10, 50, 20, 60), box(90, 1, 95, 2), box(101, 0, 102, 1)}, pairs(0, 2))
	checkPairs(t, []api.Box{box(0, 0, 100, 1), box(1, 0, 2, 1), box(50, 0, 60, 1), box(100, 0, 200, 1)}, pairs(0, 1, 0, 2, 0, 3))
}

func TestP901PairsOfBoxesInsideOut(t *testing.T) {
	around := box(0, 0, 9, 9)
	for _, b := range []api.Box{box(9, 0, 0, 9), box(5, 3, 4, 6), box(3, 9, 6, 0), box(9, 9, 0, 0), box(5, 5, 4, 4)} {
		checkTwo(t, around, b, true)
		checkTwo(t, b, b, false)
		checkTwo(t, b, box(most, most, lowest, lowest), false)
		checkTwo(t, b, box(lowest, lowest, most, most), true)
	}
	checkTwo(t, box(9, 0, 1, 9), box(2, 0, 9, 9), false)
	checkTwo(t, box(9, 0, 1, 9), box(1, 0, 8, 9), false)
	checkTwo(t, box(9, 0, 1, 9), box(1, 0, 9, 9), true)
	checkPairs(t, []api.Box{box(9, 0, 1, 9), box(2, 0, 4, 9), around, box(5, 0, 9, 9)}, pairs(0, 2, 1, 2, 2, 3))
	checkPairs(t, []api.Box{box(5, 5, 1, 1), box(3, 3, 3, 3), around}, pairs(0, 2, 1, 2))
	// One that begins ahead of the others, and ends ahead of where it begins, stops none of them.
	checkPairs(t, []api.Box{box(0, 0, -5, 9), box(1, 0, 4, 9), box(2, 0, 3, 9), box(-5, 0, 0, 9)}, pairs(0, 3, 1, 2))
}

// A stands below B, and they rise by A, then by B, in whatever order the boxes are told.
func TestP901PairsInAllOrders(t *testing.T) {
	for _, l := range [][]api.Box{
		{box(5, 0, 9, 9), box(0, 0, 9, 9), box(3, 0, 4, 9), box(9, 9, 9, 9), box(4, 2, 5, 3), box(20, 0, 30, 9)},
		{box(0, 0, 9, 1), box(0, 2, 9, 3), box(0, 1, 9, 2), box(0, 0, 9, 3), box(0, 4, 9, 5)},
		{box(9, 0, 1, 9), box(2, 0, 4, 9), box(0, 0, 9, 9), box(5, 0, 9, 9), box(6, 7, 6, 2), box(1, 1, 9, 1)},
		{box(lowest, 0, 0, 0), box(0, 0, most, 0), box(lowest, 0, most, 0), box(most, 0, most, 0), box(most, 0, lowest, 0)},
	} {
		inAllOrders(l, func(l []api.Box) { checkPairs(t, l, byMeet(l)) })
	}
}

// All lists of four whose X lie from 0 to 2, then of those with Y likewise all lists of two.
func TestP901PairsAsMeetSays(t *testing.T) {
	flat := func(i int) api.Box { return box(api.Fix(i%3), 0, api.Fix(i/3%3), 0) }
	for i := range 9 * 9 * 9 * 9 {
		l := []api.Box{flat(i), flat(i / 9), flat(i / 81), flat(i / 729)}
		checkPairs(t, l, byMeet(l))
	}
	full := func(i int) api.Box {
		return box(api.Fix(i%3), api.Fix(i/3%3), api.Fix(i/9%3), api.Fix(i/27%3))
	}
	for i := range 81 * 81 {
		l := []api.Box{full(i), full(i / 81)}
		checkPairs(t, l, byMeet(l))
	}
}

func TestP901PairsOfMany(t *testing.T) {
	for _, n := range []int{12, 13, 40, 100, 300} {
		for _, span := range []uint64{2, 7, 1000} {
			l := scattered(n, span, uint64(n)+span)
			checkPairs(t, l, byMeet(l))
			for i, b := range l {
				l[i] = box(b.Low.X, b.Low.Y, b.Low.X+b.High.X/9, b.Low.Y+b.High.Y/9)
			}
			checkPairs(t, l, byMeet(l))
		}
	}
}

// What is written into an answer, up to its capacity, is in no answer that was told ahead of it, nor in one told later, nor in the boxes.
func TestP901AnswersShareNothing(t *testing.T) {
	l := []api.Box{box(5, 0, 9, 9), box(0, 0, 9, 9), box(3, 0, 4, 9), box(9, 9, 9, 9)}
	ahead := slices.Clone(l)
	places, found := []int{1, 2, 0, 3}, pairs(0, 1, 0, 3, 1, 2, 1, 3)
	first, firstPairs := Sorted(l...), Pairs(l...)
	second, secondPairs := Sorted(l...), Pairs(l...)
	spoil(second, -1)
	spoil(secondPairs, api.Pair{A: -1, B: -1})
	if !slices.Equal(first, places) || !slices.Equal(firstPairs, found) {
		t.Errorf("told ahead: %d %d", first, firstPairs)
	}
	if !slices.Equal(l, ahead) {
		t.Errorf("the boxes: %d", l)
	}
	checkSorted(t, l, places...)
	checkPairs(t, l, found)
	spoil(l, api.Box{})
	if !slices.Equal(first, places) || !slices.Equal(firstPairs, found) {
		t.Errorf("with other boxes: %d %d", first, firstPairs)
	}
}

// spoil writes x over all of l, and over what its memory has behind it.
func spoil[T any](l []T, x T) {
	l = l[:cap(l)]
	for i := range l {
		l[i] = x
	}
}

// Neither call writes behind the boxes that it is handed, where the list has room.
func TestP901NothingBehindTheBoxes(t *testing.T) {
	all := []api.Box{box(5, 0, 9, 9), box(0, 0, 9, 9), box(3, 0, 4, 9), box(4, 4, 4, 4)}
	ahead := slices.Clone(all)
	checkSorted(t, all[:2], 1, 0)
	checkPairs(t, all[:2], pairs(0, 1))
	if !slices.Equal(all, ahead) {
		t.Errorf("behind the boxes: %d", all)
	}
}
