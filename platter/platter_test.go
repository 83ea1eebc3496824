package platter

import (
	"math"
	"slices"
	"strings"
	"testing"

	"maquette/api"
)

// all is a page of one letter, mixed a page whose bytes all tell where they stand.
func all(c string) string { return strings.Repeat(c, api.PageSize) }

func mixed(from int) string {
	b := make([]byte, api.PageSize)
	for i := range b {
		b[i] = byte(from + i)
	}
	return string(b)
}

// torn is a page of which the first n bytes are those of b, the others those of under.
func torn(n int, b, under string) string { return b[:n] + under[n:] }

var blank = all("\x00")

// made is a Platter of these pages, settled.
func made(t *testing.T, l ...string) *Platter {
	t.Helper()
	p := New(len(l))
	for n, b := range l {
		store(t, p, n, b)
	}
	settle(t, p)
	return p
}

// store wants that a Store goes well.
func store(t *testing.T, p *Platter, n int, b string) {
	t.Helper()
	if err := p.Store(n, b); err != api.OK {
		t.Fatalf("Store(%d, %q): %d", n, b, err)
	}
}

// refused wants that a Store does not.
func refused(t *testing.T, p *Platter, n int, b string, want api.Errno) {
	t.Helper()
	if err := p.Store(n, b); err != want {
		t.Errorf("Store(%d, %q): %d, not %d", n, b, err, want)
	}
}

func settle(t *testing.T, p *Platter) {
	t.Helper()
	if err := p.Settle(); err != api.OK {
		t.Fatalf("Settle: %d", err)
	}
}

// checkLoad wants just this of a Load; beside an error want is "".
func checkLoad(t *testing.T, p *Platter, n int, want string, errno api.Errno) {
	t.Helper()
	if b, err := p.Load(n); b != want || err != errno {
		t.Errorf("Load(%d): %q, %d, not %q, %d", n, b, err, want, errno)
	}
}

// checkPages wants that p runs, and has just these pages.
func checkPages(t *testing.T, p *Platter, l ...string) {
	t.Helper()
	if p.Halted() {
		t.Errorf("it is halted")
	}
	if n := p.Pages(); n != len(l) {
		t.Errorf("Pages: %d, not %d", n, len(l))
	}
	for n, b := range l {
		checkLoad(t, p, n, b, api.OK)
	}
	checkLoad(t, p, len(l), "", api.ErrRange)
	checkLoad(t, p, -1, "", api.ErrRange)
}

func checkAfloat(t *testing.T, p *Platter, want int) {
	t.Helper()
	if n := p.Afloat(); n != want {
		t.Errorf("Afloat: %d, not %d", n, want)
	}
}

func checkHalted(t *testing.T, p *Platter, want bool) {
	t.Helper()
	if is := p.Halted(); is != want {
		t.Errorf("Halted: %t", is)
	}
}

// checkFail wants what Fail tells, which pages there are behind it, and that nothing is afloat; cuts must stay.
func checkFail(t *testing.T, p *Platter, cuts []int, want int, pages ...string) {
	t.Helper()
	was := slices.Clone(cuts)
	if n := p.Fail(cuts...); n != want {
		t.Errorf("Fail(%d): %d, not %d", was, n, want)
	}
	if !slices.Equal(cuts, was) {
		t.Errorf("Fail(%d) wrote %d", was, cuts)
	}
	checkAfloat(t, p, 0)
	checkPages(t, p, pages...)
}

// checkStops wants that one that is halted, or none at all, does not go on.
func checkStops(t *testing.T, p *Platter) {
	t.Helper()
	checkHalted(t, p, true)
	was := p.Afloat()
	for _, n := range []int{0, 1, -1, api.MaxPages, math.MaxInt, math.MinInt} {
		checkLoad(t, p, n, "", api.ErrDead)
		for _, b := range []string{all("z"), "", "z", all("z") + "z"} {
			refused(t, p, n, b, api.ErrDead)
		}
	}
	if err := p.Settle(); err != api.ErrDead {
		t.Errorf("Settle: %d", err)
	}
	checkAfloat(t, p, was)
	checkHalted(t, p, true)
}

// checkNone wants that p is as a nil one.
func checkNone(t *testing.T, p *Platter) {
	t.Helper()
	for range 2 {
		checkStops(t, p)
		checkAfloat(t, p, 0)
		for _, after := range []int{0, 1, -1} {
			p.Halt(after)
			checkStops(t, p)
		}
		for _, cuts := range [][]int{nil, {0}, {1, api.PageSize}, {-1}} {
			if n := p.Fail(cuts...); n != 0 {
				t.Errorf("Fail(%d): %d", cuts, n)
			}
			checkStops(t, p)
		}
		if n := p.Pages(); n != 0 {
			t.Errorf("Pages: %d", n)
		}
		if p.Twin() != nil {
			t.Errorf("Twin: there is one")
		}
	}
}

func TestP1301New(t *testing.T) {
	for _, pages := range []int{0, -1, api.MaxPages + 1, math.MaxInt, math.MinInt} {
		if New(pages) != nil {
			t.Errorf("New(%d): there is one", pages)
		}
	}
	for _, pages := range []int{1, 2, api.MinPages - 1, api.MinPages, api.MaxPages - 1, api.MaxPages} {
		p := New(pages)
		if p == nil {
			t.Fatalf("New(%d): there is none", pages)
		}
		checkPages(t, p, slices.Repeat([]string{blank}, pages)...)
		checkAfloat(t, p, 0)
		checkFail(t, p, []int{9}, 0, slices.Repeat([]string{blank}, pages)...)
	}
	// It is not to halt.
	p := New(1)
	for range 300 {
		store(t, p, 0, all("a"))
	}
	checkAfloat(t, p, 300)
	checkHalted(t, p, false)
}

// What is done to one that was made is not done to another.
func TestP1301NewApart(t *testing.T) {
	p, q := New(2), New(2)
	store(t, p, 1, all("a"))
	p.Halt(0)
	store(t, q, 0, all("b"))
	refused(t, p, 0, all("c"), api.ErrDead)
	checkPages(t, q, all("b"), blank)
	checkFail(t, p, []int{1}, 1, blank, torn(1, all("a"), blank))
}

func TestP1301LoadAndStore(t *testing.T) {
	p := New(3)
	store(t, p, 0, mixed(0))
	checkPages(t, p, mixed(0), blank, blank)
	store(t, p, 2, mixed(200))
	checkPages(t, p, mixed(0), blank, mixed(200))
	// What was stored last counts, be what was stored ahead of it afloat or settled.
	store(t, p, 0, mixed(7))
	checkPages(t, p, mixed(7), blank, mixed(200))
	settle(t, p)
	checkPages(t, p, mixed(7), blank, mixed(200))
	store(t, p, 2, all("a"))
	store(t, p, 1, mixed(130))
	store(t, p, 2, all("b"))
	checkPages(t, p, mixed(7), mixed(130), all("b"))
	store(t, p, 2, blank)
	checkPages(t, p, mixed(7), mixed(130), blank)
	checkAfloat(t, p, 4)
	last := New(api.MaxPages)
	store(t, last, api.MaxPages-1, mixed(1))
	store(t, last, 0, mixed(2))
	checkLoad(t, last, api.MaxPages-1, mixed(1), api.OK)
	checkLoad(t, last, api.MaxPages-2, blank, api.OK)
	checkLoad(t, last, 0, mixed(2), api.OK)
	checkLoad(t, last, api.MaxPages, "", api.ErrRange)
	refused(t, last, api.MaxPages, mixed(1), api.ErrRange)
}

func TestP1301StoreRefused(t *testing.T) {
	good := all("x")
	for _, c := range []struct {
		n    int
		b    string
		want api.Errno
	}{
		{2, good, api.ErrRange}, {3, good, api.ErrRange}, {-1, good, api.ErrRange},
		{math.MaxInt, good, api.ErrRange}, {math.MinInt, good, api.ErrRange},
		{0, "", api.ErrArg}, {1, "x", api.ErrArg}, {0, good[1:], api.ErrArg}, {1, good + "x", api.ErrArg}, {0, good + good, api.ErrArg},
		// Where both fit, there is no such page.
		{2, "", api.ErrRange}, {-1, good[1:], api.ErrRange}, {2, good + "x", api.ErrRange},
	} {
		p := made(t, all("a"), all("b"))
		store(t, p, 1, all("c"))
		refused(t, p, c.n, c.b, c.want)
		checkPages(t, p, all("a"), all("c"))
		checkAfloat(t, p, 1)
		// It is none of those that come, or that are counted.
		store(t, p, 0, all("d"))
		checkFail(t, p, []int{1, 2}, 2, torn(2, all("d"), all("a")), torn(1, all("c"), all("b")))
	}
}

// Bytes are those that they were, wherever they are a piece of.
func TestP1301StoreOfPieces(t *testing.T) {
	b := []byte("ahead" + mixed(3) + "behind")
	p := New(1)
	store(t, p, 0, string(b[5:5+api.PageSize]))
	told, _ := p.Load(0)
	clear(b)
	store(t, p, 0, all("q"))
	if told != mixed(3) {
		t.Errorf("told ahead: %q", told)
	}
	checkFail(t, p, []int{api.PageSize}, 1, mixed(3))
}

func TestP1301Settle(t *testing.T) {
	p := New(2)
	settle(t, p)
	checkPages(t, p, blank, blank)
	store(t, p, 0, all("a"))
	store(t, p, 1, all("b"))
	store(t, p, 0, all("c"))
	checkAfloat(t, p, 3)
	settle(t, p)
	checkAfloat(t, p, 0)
	checkPages(t, p, all("c"), all("b"))
	for _, cuts := range [][]int{nil, {0, 0, 0}, {api.PageSize, 5, 1}, {-1}} {
		checkFail(t, p, cuts, 0, all("c"), all("b"))
	}
	// What is stored behind it may be lost, what was settled is not; cuts begin with the first that is afloat.
	store(t, p, 1, all("d"))
	checkPages(t, p, all("c"), all("d"))
	checkFail(t, p, nil, 0, all("c"), all("b"))
	settle(t, p)
	checkPages(t, p, all("c"), all("b"))
	store(t, p, 0, all("e"))
	settle(t, p)
	store(t, p, 1, all("f"))
	checkFail(t, p, []int{1, api.PageSize}, 1, all("e"), torn(1, all("f"), all("b")))
	// What a Fail left lasts as well.
	settle(t, p)
	checkFail(t, p, []int{9, 9}, 0, all("e"), torn(1, all("f"), all("b")))
}

func TestP1301Halt(t *testing.T) {
	for _, after := range []int{0, 1, 2, 7} {
		p := made(t, all("a"), all("b"))
		p.Halt(after)
		for k := range after {
			checkHalted(t, p, false)
			store(t, p, k%2, all(string(rune('0'+k))))
			checkAfloat(t, p, k+1)
		}
		// Neither what is refused nor what is settled, told or counted halts it, or counts.
		for range 3 {
			refused(t, p, 2, all("x"), api.ErrRange)
			refused(t, p, -1, "", api.ErrRange)
			refused(t, p, 0, "", api.ErrArg)
			refused(t, p, 1, all("x")+"x", api.ErrArg)
			checkLoad(t, p, 2, "", api.ErrRange)
			checkAfloat(t, p, after)
			checkHalted(t, p, false)
		}
		refused(t, p, 0, all("x"), api.ErrDead)
		checkStops(t, p)
		checkAfloat(t, p, after)
		if n := p.Pages(); n != 2 {
			t.Errorf("Pages: %d", n)
		}
	}
}

func TestP1301HaltBesideOtherCalls(t *testing.T) {
	p := New(2)
	p.Halt(2)
	refused(t, p, 0, "", api.ErrArg)
	settle(t, p)
	store(t, p, 0, all("a"))
	settle(t, p)
	checkLoad(t, p, 1, blank, api.OK)
	refused(t, p, 2, all("b"), api.ErrRange)
	store(t, p, 1, all("b"))
	settle(t, p)
	checkPages(t, p, all("a"), all("b"))
	refused(t, p, 0, all("c"), api.ErrDead)
	checkStops(t, p)
	checkFail(t, p, []int{9, 9, 9}, 0, all("a"), all("b"))
}

// The one that halts it is not stored: no Fail brings it.
func TestP1301HaltStoresNothing(t *testing.T) {
	p := made(t, all("a"), all("b"))
	p.Halt(1)
	store(t, p, 0, all("c"))
	refused(t, p, 0, all("d"), api.ErrDead)
	refused(t, p, 1, all("e"), api.ErrDead)
	checkAfloat(t, p, 1)
	checkFail(t, p, []int{5, api.PageSize, api.PageSize}, 1, torn(5, all("c"), all("a")), all("b"))
}

func TestP1301HaltNever(t *testing.T) {
	for _, after := range []int{-1, -2, math.MinInt} {
		p := New(1)
		p.Halt(0)
		p.Halt(after)
		for range 300 {
			store(t, p, 0, all("a"))
		}
		checkHalted(t, p, false)
		checkAfloat(t, p, 300)
	}
}

func TestP1301HaltAnew(t *testing.T) {
	for _, c := range []struct{ first, stores, second int }{
		{0, 0, 0}, {0, 0, 1}, {0, 0, 3}, {3, 0, 0}, {3, 1, 0}, {3, 3, 0}, {3, 2, 3}, {3, 3, 3}, {math.MaxInt, 4, 2}, {-1, 5, 0}, {-1, 5, 2},
	} {
		p := New(1)
		p.Halt(c.first)
		for range c.stores {
			store(t, p, 0, all("a"))
		}
		p.Halt(c.second)
		for range c.second {
			store(t, p, 0, all("b"))
		}
		checkAfloat(t, p, c.stores+c.second)
		checkHalted(t, p, false)
		refused(t, p, 0, all("c"), api.ErrDead)
		checkStops(t, p)
	}
}

// One that is halted is not to be told otherwise, but by a Fail; and nothing of what it was told then lasts.
func TestP1301HaltOfOneThatIsHalted(t *testing.T) {
	for _, after := range []int{0, 1, 5, -1, math.MaxInt, math.MinInt} {
		p := New(1)
		store(t, p, 0, all("a"))
		p.Halt(0)
		refused(t, p, 0, all("b"), api.ErrDead)
		p.Halt(after)
		checkStops(t, p)
		p.Halt(after)
		checkStops(t, p)
		checkFail(t, p, []int{2}, 1, torn(2, all("a"), blank))
		for range 10 {
			store(t, p, 0, all("c"))
		}
		checkHalted(t, p, false)
		checkAfloat(t, p, 10)
	}
}

func TestP1302FailCuts(t *testing.T) {
	const size = api.PageSize
	under, over := mixed(100), mixed(1)
	for _, c := range []struct{ cut, came int }{
		{0, 0}, {-1, 0}, {math.MinInt, 0}, {1, 1}, {2, 2}, {3, 3}, {size / 2, size / 2},
		{size - 1, size - 1}, {size, size}, {size + 1, size}, {2 * size, size}, {math.MaxInt, size},
	} {
		p := made(t, under, all("b"))
		store(t, p, 0, over)
		checkFail(t, p, []int{c.cut}, min(c.came, 1), torn(c.came, over, under), all("b"))
	}
	p := New(2)
	store(t, p, 0, all("x"))
	checkFail(t, p, []int{3}, 1, torn(3, all("x"), blank), blank)
}

// Fewer cuts than Stores: of the others nothing comes; more of them: they count for nothing.
func TestP1302FailOfFewAndMany(t *testing.T) {
	for _, c := range []struct {
		cuts  []int
		want  int
		pages []string
	}{
		{nil, 0, []string{all("a"), all("b"), all("c")}},
		{[]int{}, 0, []string{all("a"), all("b"), all("c")}},
		{[]int{4}, 1, []string{all("a"), torn(4, all("x"), all("b")), all("c")}},
		{[]int{0, 5}, 1, []string{all("a"), all("b"), torn(5, all("y"), all("c"))}},
		{[]int{-7, 0, 6}, 1, []string{torn(6, all("z"), all("a")), all("b"), all("c")}},
		{[]int{4, 5}, 2, []string{all("a"), torn(4, all("x"), all("b")), torn(5, all("y"), all("c"))}},
		{[]int{4, 0, 999}, 2, []string{all("z"), torn(4, all("x"), all("b")), all("c")}},
		{[]int{999, 999, 999}, 3, []string{all("z"), all("x"), all("y")}},
		{[]int{1, 2, 3, 4, 5, -1, 999}, 3, []string{torn(3, all("z"), all("a")), torn(1, all("x"), all("b")), torn(2, all("y"), all("c"))}},
	} {
		p := made(t, all("a"), all("b"), all("c"))
		store(t, p, 1, all("x"))
		store(t, p, 2, all("y"))
		store(t, p, 0, all("z"))
		checkFail(t, p, c.cuts, c.want, c.pages...)
	}
}

// Of several of one page each comes over what those ahead of it left, not over what they were.
func TestP1302FailOfOnePage(t *testing.T) {
	a := mixed(50)
	for _, c := range []struct {
		cuts []int
		want int
		page string
	}{
		{[]int{90, 60, 30}, 3, torn(30, all("z"), torn(60, all("y"), torn(90, all("x"), a)))},
		{[]int{30, 60, 90}, 3, torn(90, all("z"), a)},
		{[]int{30, 90, 60}, 3, torn(60, all("z"), torn(90, all("y"), a))},
		{[]int{128, 0, 0}, 1, all("x")},
		{[]int{0, 128, 1}, 2, torn(1, all("z"), all("y"))},
		{[]int{5, -1, 128}, 2, all("z")},
		{[]int{7}, 1, torn(7, all("x"), a)},
		{nil, 0, a},
	} {
		p := made(t, a)
		store(t, p, 0, all("x"))
		store(t, p, 0, all("y"))
		store(t, p, 0, all("z"))
		checkLoad(t, p, 0, all("z"), api.OK)
		checkFail(t, p, c.cuts, c.want, c.page)
	}
}

// Bytes that are just those of the page are brought as well.
func TestP1302FailCountsWhatMakesNoDifference(t *testing.T) {
	p := made(t, all("a"))
	store(t, p, 0, all("a"))
	store(t, p, 0, all("a"))
	store(t, p, 0, all("a"))
	checkFail(t, p, []int{1, 0, 200}, 2, all("a"))
}

func TestP1302FailOfNoneAfloat(t *testing.T) {
	p := New(1)
	checkFail(t, p, nil, 0, blank)
	checkFail(t, p, []int{1, 2, 3}, 0, blank)
	store(t, p, 0, all("a"))
	checkFail(t, p, []int{4}, 1, torn(4, all("a"), blank))
	// A second one finds none: nothing more comes, and nothing is lost.
	checkFail(t, p, []int{100}, 0, torn(4, all("a"), blank))
	checkFail(t, p, nil, 0, torn(4, all("a"), blank))
}

// Behind it, it runs, and is not to halt, were it halted or to be.
func TestP1302FailRunsAgain(t *testing.T) {
	for _, stores := range []int{0, 1, 2, 3} {
		p := made(t, all("a"), all("b"))
		p.Halt(2)
		for k := range stores {
			if err := p.Store(1, all("c")); (err == api.OK) != (k < 2) {
				t.Errorf("Store %d: %d", k, err)
			}
		}
		checkHalted(t, p, stores > 2)
		checkFail(t, p, nil, 0, all("a"), all("b"))
		for range 5 {
			store(t, p, 0, all("d"))
		}
		settle(t, p)
		checkPages(t, p, all("d"), all("b"))
		// A Halt from then on counts as ever.
		p.Halt(1)
		store(t, p, 1, all("e"))
		refused(t, p, 1, all("f"), api.ErrDead)
		checkStops(t, p)
		checkFail(t, p, []int{6, 9}, 1, all("d"), torn(6, all("e"), all("b")))
	}
}

func TestP1302Afloat(t *testing.T) {
	p := New(2)
	checkAfloat(t, p, 0)
	for k := range 5 {
		store(t, p, k%2, all("a"))
		checkAfloat(t, p, k+1)
		checkLoad(t, p, 0, all("a"), api.OK)
		checkAfloat(t, p, k+1)
	}
	refused(t, p, 2, all("a"), api.ErrRange)
	refused(t, p, 0, "", api.ErrArg)
	checkAfloat(t, p, 5)
	p.Halt(0)
	checkAfloat(t, p, 5)
	refused(t, p, 0, all("a"), api.ErrDead)
	checkAfloat(t, p, 5)
	p.Fail()
	checkAfloat(t, p, 0)
	store(t, p, 0, all("a"))
	checkAfloat(t, p, 1)
	settle(t, p)
	checkAfloat(t, p, 0)
}

func TestP1302Pages(t *testing.T) {
	for _, pages := range []int{1, 2, 77, api.MaxPages} {
		p := New(pages)
		checkCount := func(when string) {
			if n := p.Pages(); n != pages {
				t.Errorf("Pages %s: %d, not %d", when, n, pages)
			}
		}
		checkCount("at first")
		store(t, p, 0, all("a"))
		checkCount("behind a Store")
		p.Halt(0)
		refused(t, p, 0, all("a"), api.ErrDead)
		checkCount("halted")
		p.Fail()
		checkCount("behind a Fail")
	}
}

// What is done to a Twin is not done to the one it is of, and the other way round.
func TestP1302TwinApart(t *testing.T) {
	for _, twinFirst := range []bool{false, true} {
		p := made(t, all("a"), all("b"))
		store(t, p, 0, all("c"))
		store(t, p, 0, all("d"))
		store(t, p, 0, all("e")) // so that the list has room behind it
		q := p.Twin()
		if q == p || q == nil {
			t.Fatalf("Twin: %p of %p", q, p)
		}
		if twinFirst {
			p, q = q, p
		}
		checkPages(t, q, all("e"), all("b"))
		checkAfloat(t, q, 3)
		store(t, p, 1, all("p"))
		store(t, q, 1, all("q"))
		checkPages(t, p, all("e"), all("p"))
		checkPages(t, q, all("e"), all("q"))
		p.Halt(0)
		refused(t, p, 0, all("z"), api.ErrDead)
		checkPages(t, q, all("e"), all("q"))
		checkFail(t, p, []int{0, 10, 0, 20}, 2, torn(10, all("d"), all("a")), torn(20, all("p"), all("b")))
		checkPages(t, q, all("e"), all("q"))
		checkAfloat(t, q, 4)
		checkFail(t, q, []int{30, 0, 0, 40}, 2, torn(30, all("c"), all("a")), torn(40, all("q"), all("b")))
		store(t, p, 0, all("r"))
		settle(t, p)
		checkPages(t, q, torn(30, all("c"), all("a")), torn(40, all("q"), all("b")))
		checkFail(t, q, nil, 0, torn(30, all("c"), all("a")), torn(40, all("q"), all("b")))
		checkPages(t, p, all("r"), torn(20, all("p"), all("b")))
	}
}

// What is settled in the one is afloat in the other.
func TestP1302TwinSettlesAlone(t *testing.T) {
	p := made(t, all("a"))
	store(t, p, 0, all("b"))
	q := p.Twin()
	settle(t, p)
	checkAfloat(t, q, 1)
	checkFail(t, q, nil, 0, all("a"))
	checkFail(t, p, nil, 0, all("b"))
}

// Halts go along: how many are left, and whether it is halted.
func TestP1302TwinHalts(t *testing.T) {
	p := New(1)
	p.Halt(3)
	store(t, p, 0, all("a"))
	q := p.Twin()
	for range 2 {
		store(t, p, 0, all("b"))
	}
	refused(t, p, 0, all("c"), api.ErrDead)
	checkHalted(t, q, false)
	checkAfloat(t, q, 1)
	for range 2 {
		store(t, q, 0, all("d"))
	}
	refused(t, q, 0, all("e"), api.ErrDead)
	checkStops(t, q)
	r := p.Twin()
	checkStops(t, r)
	checkAfloat(t, r, 3)
	checkFail(t, p, nil, 0, blank)
	checkStops(t, r)
	checkFail(t, r, []int{0, 0, 9}, 1, torn(9, all("b"), blank))
	// One that is not to halt has a Twin that is not to.
	s := p.Twin()
	for range 20 {
		store(t, s, 0, all("f"))
	}
	checkHalted(t, s, false)
	s.Halt(0)
	refused(t, s, 0, all("f"), api.ErrDead)
	checkPages(t, p, blank)
	store(t, p, 0, all("g"))
}

func TestP1302None(t *testing.T) {
	checkNone(t, nil)
	checkNone(t, New(0))
	checkNone(t, &Platter{})
	checkNone(t, (*Platter)(nil).Twin())
}

// plain is a Platter as the chapter tells it, in the slowest way: its pages are reckoned anew from all that was settled and stored.
type plain struct {
	lasting []string
	afloat  []plainStore
	left    int
	halted  bool
}

type plainStore struct {
	n int
	b string
}

func (m *plain) store(n int, b string) api.Errno {
	switch {
	case m.halted:
		return api.ErrDead
	case n < 0 || n >= len(m.lasting):
		return api.ErrRange
	case len(b) != api.PageSize:
		return api.ErrArg
	case m.left == 0:
		m.halted = true
		return api.ErrDead
	}
	m.left--
	m.afloat = append(m.afloat, plainStore{n, b})
	return api.OK
}

func (m *plain) fail(cuts []int) int {
	came := 0
	for k, s := range m.afloat {
		for i := range api.PageSize {
			if k < len(cuts) && i < cuts[k] {
				page := m.lasting[s.n]
				m.lasting[s.n] = page[:i] + s.b[i:i+1] + page[i+1:]
			}
		}
		if k < len(cuts) && cuts[k] > 0 {
			came++
		}
	}
	m.afloat, m.left, m.halted = nil, -1, false
	return came
}

func (m *plain) pages() []string {
	l := slices.Clone(m.lasting)
	for _, s := range m.afloat {
		l[s.n] = s.b
	}
	return l
}

func (m *plain) twin() *plain {
	return &plain{lasting: slices.Clone(m.lasting), afloat: slices.Clone(m.afloat), left: m.left, halted: m.halted}
}

// checkPlain wants that p is as the plain one.
func checkPlain(t *testing.T, p *Platter, m *plain) {
	t.Helper()
	checkAfloat(t, p, len(m.afloat))
	checkHalted(t, p, m.halted)
	for n, b := range m.pages() {
		if m.halted {
			checkLoad(t, p, n, "", api.ErrDead)
		} else {
			checkLoad(t, p, n, b, api.OK)
		}
	}
}

// Whatever is done, in whatever order, a Platter is as the plain one, and its Twins are as that one's.
func TestP1302AsPlainOne(t *testing.T) {
	state := uint32(1)
	next := func(n int) int {
		state = state*1664525 + 1013904223
		return int(state>>8) % n
	}
	const pages = 4
	ps := []*Platter{New(pages), New(pages)}
	ms := []*plain{{lasting: slices.Repeat([]string{blank}, pages), left: -1}, {lasting: slices.Repeat([]string{blank}, pages), left: -1}}
	for step := range 6000 {
		at := next(2)
		p, m := ps[at], ms[at]
		switch next(12) {
		case 0:
			want := api.ErrDead
			if !m.halted {
				want = api.OK
				m.lasting, m.afloat = m.pages(), nil
			}
			if err := p.Settle(); err != want {
				t.Fatalf("%d: Settle: %d, not %d", step, err, want)
			}
		case 1:
			after := next(9) - 2
			p.Halt(after)
			if !m.halted {
				m.left = after
			}
		case 2:
			cuts := make([]int, next(7))
			for k := range cuts {
				cuts[k] = next(api.PageSize+40) - 20
			}
			if got, want := p.Fail(cuts...), m.fail(cuts); got != want {
				t.Fatalf("%d: Fail(%d): %d, not %d", step, cuts, got, want)
			}
		case 3:
			ps[1-at], ms[1-at] = p.Twin(), m.twin()
		default:
			n, b := next(pages+2)-1, mixed(step)[next(30)/29:]
			if got, want := p.Store(n, b), m.store(n, b); got != want {
				t.Fatalf("%d: Store(%d, %q): %d, not %d", step, n, b, got, want)
			}
		}
		checkPlain(t, ps[0], ms[0])
		checkPlain(t, ps[1], ms[1])
		if t.Failed() {
			t.Fatalf("at step %d", step)
		}
	}
}
