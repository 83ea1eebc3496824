package shelf

import (
	"math"
	"math/rand/v2"
	"slices"
	"strings"
	"testing"
	"unsafe"

	"maquette/api"
	"maquette/sheet"
)

const (
	topKey  = 1<<31 - 1
	topPage = api.MaxPages - 1
)

func rec(key int, b string) Record { return Record{Key: key, Bytes: b} }

func at(page int, b string) Write { return Write{Page: page, Bytes: b} }

func slot(key, page int) sheet.Slot { return sheet.Slot{Key: key, Page: page} }

func short(key int, b string) sheet.Cell { return sheet.Cell{Key: key, Size: len(b), Bytes: b} }

func long(key, size, page int) sheet.Cell { return sheet.Cell{Key: key, Size: size, Page: page} }

// laid is a page of which the test knows that there may be such a one.
func laid(b string, ok bool) string {
	if !ok {
		panic("there is no such page")
	}
	return b
}

func xs(n int) string { return strings.Repeat("x", n) }

// varied is so many bytes, of which no two pieces are alike, nor those of two seeds.
func varied(seed, n int) string {
	b := make([]byte, n)
	for i := range b {
		b[i] = byte(i/api.Chain*16 + seed + i%7)
	}
	return string(b)
}

// seq is the numbers of from up to ahead of to.
func seq(from, to int) []int {
	var l []int
	for n := from; n < to; n++ {
		l = append(l, n)
	}
	return l
}

// alike is so many records of the same bytes, with rising keys.
func alike(count int, b string) []Record {
	var l []Record
	for key := range count {
		l = append(l, rec(key, b))
	}
	return l
}

func pagesOf(l []Write) []int {
	var pages []int
	for _, w := range l {
		pages = append(pages, w.Page)
	}
	return pages
}

// checkPlan wants this Plan, and that nothing that was handed in is turned.
func checkPlan(t *testing.T, l []Record, have []Write, free []int, want []Write, wantRoot int, wantErr api.Errno) {
	t.Helper()
	wasL, wasHave, wasFree := slices.Clone(l), slices.Clone(have), slices.Clone(free)
	got, root, err := Plan(l, have, free)
	if !slices.Equal(got, want) || root != wantRoot || err != wantErr {
		t.Errorf("Plan(%#v, %#v, %d): %#v, %d, %d, not %#v, %d, %d", l, have, free, got, root, err, want, wantRoot, wantErr)
	}
	if !slices.Equal(l, wasL) || !slices.Equal(have, wasHave) || !slices.Equal(free, wasFree) {
		t.Errorf("Plan turned %#v, %#v, %d to %#v, %#v, %d", wasL, wasHave, wasFree, l, have, free)
	}
}

// refused wants that Plan tells an error, and nothing beside it.
func refused(t *testing.T, l []Record, have []Write, free []int, err api.Errno) {
	t.Helper()
	checkPlan(t, l, have, free, nil, 0, err)
}

// planned is what Plan tells where the test knows that there is room.
func planned(t *testing.T, l []Record, have []Write, free []int) ([]Write, int) {
	t.Helper()
	writes, root, err := Plan(l, have, free)
	if err != api.OK {
		t.Fatalf("Plan(%#v, %#v, %d): %d", l, have, free, err)
	}
	return writes, root
}

func checkRight(t *testing.T, want bool, l ...Record) {
	t.Helper()
	was := slices.Clone(l)
	if ok := Right(l...); ok != want {
		t.Errorf("Right(%#v): %t", l, ok)
	}
	if !slices.Equal(l, was) {
		t.Errorf("Right turned %#v to %#v", was, l)
	}
	if want {
		return
	}
	// What is not right is refused by all that take it.
	refused(t, l, nil, seq(2, api.MaxPages), api.ErrArg)
	checkNeed(t, 0, l...)
}

func checkNeed(t *testing.T, want int, l ...Record) {
	t.Helper()
	was := slices.Clone(l)
	if n := Need(l...); n != want {
		t.Errorf("Need(%#v): %d, not %d", l, n, want)
	}
	if !slices.Equal(l, was) {
		t.Errorf("Need turned %#v to %#v", was, l)
	}
}

// disk is pages that are loaded, and what became of the loading.
type disk struct {
	pages  map[int]string
	fails  map[int]api.Errno // where there is no loading
	loaded []int
}

// written is a disk with these pages; of those with the same number the first counts.
func written(lists ...[]Write) *disk {
	d := &disk{pages: map[int]string{}, fails: map[int]api.Errno{}}
	for _, l := range lists {
		for _, w := range l {
			if _, is := d.pages[w.Page]; !is {
				d.pages[w.Page] = w.Bytes
			}
		}
	}
	return d
}

func (d *disk) load(n int) (string, api.Errno) {
	d.loaded = append(d.loaded, n)
	b, is := d.pages[n]
	if err, is := d.fails[n]; is {
		return b, err
	}
	if !is {
		return "", api.ErrRange
	}
	return b, api.OK
}

// checkRead wants these records, and these pages of the disk, each loaded once.
func checkRead(t *testing.T, root int, d *disk, want []Record, pages ...int) {
	t.Helper()
	var wantPages []Write
	for _, n := range pages {
		wantPages = append(wantPages, at(n, d.pages[n]))
	}
	d.loaded = nil
	l, read, err := Read(root, d.load)
	if !slices.Equal(l, want) || !slices.Equal(read, wantPages) || err != api.OK {
		t.Errorf("Read(%d) of %#v: %#v, %#v, %d, not %#v, %#v", root, d.pages, l, read, err, want, wantPages)
	}
	slices.Sort(d.loaded)
	if !slices.Equal(d.loaded, pages) {
		t.Errorf("Read(%d) of %#v loaded %d, not %d", root, d.pages, d.loaded, pages)
	}
}

// notRead wants that Read tells an error, and nothing beside it, behind so many loadings.
func notRead(t *testing.T, root int, d *disk, err api.Errno, loads int) {
	t.Helper()
	d.loaded = nil
	l, read, got := Read(root, d.load)
	if len(l) != 0 || len(read) != 0 || got != err {
		t.Errorf("Read(%d) of %#v, %d: %#v, %#v, %d, not %d", root, d.pages, d.fails, l, read, got, err)
	}
	if len(d.loaded) != loads {
		t.Errorf("Read(%d) of %#v, %d loaded %d, not %d of them", root, d.pages, d.fails, d.loaded, loads)
	}
}

// tree is a disk with these pages, the first of them 2.
func tree(pages ...string) *disk {
	var l []Write
	for i, b := range pages {
		l = append(l, at(2+i, b))
	}
	return written(l)
}

func TestP1601Right(t *testing.T) {
	checkRight(t, true)
	checkRight(t, true, rec(5, "abc"))
	checkRight(t, true, rec(3, "b"), rec(4, "a"), rec(900, "a"))
	checkRight(t, true, alike(2000, "")...)
}

func TestP1601RightKeys(t *testing.T) {
	for _, key := range []int{0, 1, topKey - 1, topKey} {
		checkRight(t, true, rec(key, ""))
	}
	for _, key := range []int{-1, -2, topKey + 1, topKey + 2, 1 << 32, 1<<32 + 5, math.MaxInt, math.MinInt} {
		checkRight(t, false, rec(key, ""))
		checkRight(t, false, rec(key, ""), rec(7, ""))
		checkRight(t, false, rec(7, ""), rec(key, ""))
	}
}

func TestP1601RightKeysRise(t *testing.T) {
	checkRight(t, true, rec(0, ""), rec(1, ""))
	checkRight(t, true, rec(0, ""), rec(topKey, ""))
	checkRight(t, true, rec(topKey-1, ""), rec(topKey, ""))
	checkRight(t, true, rec(1, ""), rec(2, ""), rec(3, ""))
	checkRight(t, false, rec(0, ""), rec(0, ""))
	checkRight(t, false, rec(5, "a"), rec(5, "b"))
	checkRight(t, false, rec(topKey, ""), rec(topKey, ""))
	checkRight(t, false, rec(1, ""), rec(0, ""))
	checkRight(t, false, rec(1, ""), rec(3, ""), rec(2, ""))
	checkRight(t, false, rec(2, ""), rec(1, ""), rec(3, ""))
	checkRight(t, false, rec(1, ""), rec(2, ""), rec(2, ""))
	checkRight(t, false, rec(1, ""), rec(3, ""), rec(1, ""))
}

func TestP1601RightBytes(t *testing.T) {
	for _, n := range []int{0, 1, api.Inline, api.Inline + 1, api.Chain, api.PageSize, api.MaxRecord - 1, api.MaxRecord} {
		checkRight(t, true, rec(1, xs(n)))
		checkRight(t, true, rec(1, ""), rec(2, xs(n)), rec(3, ""))
	}
	for _, n := range []int{api.MaxRecord + 1, api.MaxRecord + 2, 2 * api.MaxRecord, 1 << 16, 1<<16 + 1} {
		checkRight(t, false, rec(1, xs(n)))
		checkRight(t, false, rec(1, ""), rec(2, xs(n)), rec(3, ""))
		checkRight(t, false, rec(1, ""), rec(2, xs(n)))
	}
}

func TestP1601PlanOfNone(t *testing.T) {
	empty := laid(sheet.Index())
	checkPlan(t, nil, nil, []int{4}, []Write{at(4, empty)}, 4, api.OK)
	checkPlan(t, []Record{}, []Write{}, []int{9, 3}, []Write{at(9, empty)}, 9, api.OK)
	checkPlan(t, nil, []Write{at(8, empty)}, nil, nil, 8, api.OK)
	refused(t, nil, nil, nil, api.ErrFull)
	refused(t, nil, []Write{at(8, xs(api.PageSize))}, []int{}, api.ErrFull)
}

func TestP1601PlanOfOneByItsKey(t *testing.T) {
	for n := range api.Inline + 1 {
		leaf, index := laid(sheet.Leaf(short(5, varied(1, n)))), laid(sheet.Index(slot(5, 9)))
		checkPlan(t, []Record{rec(5, varied(1, n))}, nil, []int{9, 3, 7}, []Write{at(9, leaf), at(3, index)}, 3, api.OK)
	}
	leaf, index := laid(sheet.Leaf(short(topKey, "abc"))), laid(sheet.Index(slot(topKey, topPage)))
	checkPlan(t, []Record{rec(topKey, "abc")}, nil, []int{topPage, 2}, []Write{at(topPage, leaf), at(2, index)}, 2, api.OK)
}

func TestP1601PlanOfOnePiece(t *testing.T) {
	for _, n := range []int{api.Inline + 1, api.Inline + 2, 100, api.Chain - 1, api.Chain} {
		b := varied(2, n)
		want := []Write{
			at(7, laid(sheet.Chain(0, b))),
			at(2, laid(sheet.Leaf(long(6, n, 7)))),
			at(5, laid(sheet.Index(slot(6, 2)))),
		}
		checkPlan(t, []Record{rec(6, b)}, nil, []int{7, 2, 5, 3}, want, 5, api.OK)
	}
}

func TestP1601PlanOfPieces(t *testing.T) {
	for _, n := range []int{121, 122, 239, 240, 241, 360, 361, 839, 840, 841, 899, 900} {
		b := varied(3, n)
		// The last piece has what is left, and comes first; the page of each is the next of the one ahead of it.
		var want []Write
		next, page := 0, 50
		for from := (n - 1) / 120 * 120; from >= 0; from -= 120 {
			want = append(want, at(page, laid(sheet.Chain(next, b[from:min(from+120, n)]))))
			next, page = page, page+1
		}
		want = append(want, at(page, laid(sheet.Leaf(long(0, n, next)))))
		want = append(want, at(page+1, laid(sheet.Index(slot(0, page)))))
		checkPlan(t, []Record{rec(0, b)}, nil, seq(50, 70), want, page+1, api.OK)
	}
}

func TestP1601PlanOrder(t *testing.T) {
	a, b, c := varied(1, 130), varied(2, 300), varied(3, 25)
	l := []Record{rec(1, a), rec(2, "two"), rec(3, b), rec(5, ""), rec(8, c)}
	want := []Write{
		at(19, laid(sheet.Chain(0, a[120:]))),
		at(18, laid(sheet.Chain(19, a[:120]))),
		at(17, laid(sheet.Chain(0, b[240:]))),
		at(16, laid(sheet.Chain(17, b[120:240]))),
		at(15, laid(sheet.Chain(16, b[:120]))),
		at(14, laid(sheet.Chain(0, c))),
		at(13, laid(sheet.Leaf(long(1, 130, 18), short(2, "two"), long(3, 300, 15), short(5, ""), long(8, 25, 14)))),
		at(12, laid(sheet.Index(slot(1, 13)))),
	}
	checkPlan(t, l, nil, []int{19, 18, 17, 16, 15, 14, 13, 12, 11}, want, 12, api.OK)
}

func TestP1601PlanLeaves(t *testing.T) {
	tests := []struct{ size, room int }{
		{0, 21}, {1, 18}, {2, 15}, {6, 10}, {8, 9}, {12, 7}, {15, 6}, {16, 5}, {19, 5}, {20, 4}, {24, 4}, {25, 15}, {900, 15},
	}
	for _, test := range tests {
		for _, count := range []int{1, test.room - 1, test.room, test.room + 1, 2 * test.room, 2*test.room + 1} {
			l := alike(count, xs(test.size))
			writes, root := planned(t, l, nil, seq(2, api.MaxPages))
			slots, ok := sheet.Slots(writes[len(writes)-1].Bytes)
			if !ok || root != writes[len(writes)-1].Page || len(slots) != (count+test.room-1)/test.room {
				t.Fatalf("%d records of %d bytes: %d leaves, root %d of %d", count, test.size, len(slots), root, pagesOf(writes))
			}
			leaves := writes[len(writes)-1-len(slots) : len(writes)-1]
			for i, s := range slots {
				cells, ok := sheet.Cells(leaves[i].Bytes)
				first := i * test.room
				if !ok || len(cells) != min(test.room, count-first) || cells[0].Key != first || s != slot(first, leaves[i].Page) {
					t.Errorf("%d records of %d bytes: leaf %d has %d cells, and the slot %d", count, test.size, i, len(cells), s)
				}
			}
		}
	}
}

func TestP1601PlanLeavesOfSome(t *testing.T) {
	// Four of 24 bytes and one of none take 128 bytes with the two at the front: all that a page has.
	full := append(alike(4, xs(24)), rec(4, ""))
	cells := []sheet.Cell{short(0, xs(24)), short(1, xs(24)), short(2, xs(24)), short(3, xs(24)), short(4, "")}
	want := []Write{at(2, laid(sheet.Leaf(cells...))), at(3, laid(sheet.Index(slot(0, 2))))}
	checkPlan(t, full, nil, seq(2, 9), want, 3, api.OK)
	over := append(alike(4, xs(24)), rec(4, "y"))
	want = []Write{
		at(2, laid(sheet.Leaf(cells[:4]...))),
		at(3, laid(sheet.Leaf(short(4, "y")))),
		at(4, laid(sheet.Index(slot(0, 2), slot(4, 3)))),
	}
	checkPlan(t, over, nil, seq(2, 9), want, 4, api.OK)
	// One that would have had room in the leaf ahead goes behind the one that had none.
	behind := append(over, rec(9, ""))
	want = []Write{
		at(2, laid(sheet.Leaf(cells[:4]...))),
		at(3, laid(sheet.Leaf(short(4, "y"), short(9, "")))),
		at(4, laid(sheet.Index(slot(0, 2), slot(4, 3)))),
	}
	checkPlan(t, behind, nil, seq(2, 9), want, 4, api.OK)
}

func TestP1601PlanMany(t *testing.T) {
	for _, test := range []struct{ size, room int }{{0, 21}, {1, 18}, {24, 4}, {25, 15}} {
		most := alike(21*test.room, xs(test.size))
		writes, _ := planned(t, most, nil, seq(2, api.MaxPages))
		slots, ok := sheet.Slots(writes[len(writes)-1].Bytes)
		if !ok || len(slots) != 21 {
			t.Errorf("%d records of %d bytes: %d leaves", len(most), test.size, len(slots))
		}
		over := alike(21*test.room+1, xs(test.size))
		refused(t, over, nil, seq(2, api.MaxPages), api.ErrMany)
		refused(t, over, writes, nil, api.ErrMany)
		checkNeed(t, 0, over...)
		refused(t, alike(30*test.room, xs(test.size)), nil, seq(2, api.MaxPages), api.ErrMany)
	}
}

func TestP1601PlanFull(t *testing.T) {
	lists := [][]Record{
		nil,
		{rec(1, "a")},
		{rec(1, varied(1, 25))},
		{rec(1, varied(1, 900))},
		{rec(1, varied(1, 121)), rec(2, "b"), rec(3, varied(3, 240))},
		alike(84, xs(24)),
		alike(84, xs(120)),
	}
	for _, l := range lists {
		writes, root := planned(t, l, nil, seq(2, api.MaxPages))
		need := len(writes)
		checkPlan(t, l, nil, seq(2, 2+need), writes, root, api.OK)
		for few := range need {
			refused(t, l, nil, seq(2, 2+few), api.ErrFull)
		}
		// What is there needs no page, however little is.
		for i := range writes {
			checkPlan(t, l, writes[:i], seq(2+i, 2+need), writes[i:], root, api.OK)
			refused(t, l, writes[:i], seq(2+i, 2+need-1), api.ErrFull)
		}
		checkPlan(t, l, writes, nil, nil, root, api.OK)
	}
}

func TestP1601PlanFullOfAll(t *testing.T) {
	// 24 of eight pieces each, two leaves and an index leave room for just three pieces more.
	var l []Record
	for key := range 24 {
		l = append(l, rec(key, varied(key, 900)))
	}
	checkNeed(t, 195, l...)
	l = append(l, rec(24, varied(24, 360)))
	checkNeed(t, 198, l...)
	writes, root := planned(t, l, nil, seq(2, api.MaxPages))
	if !slices.Equal(pagesOf(writes), seq(2, api.MaxPages)) || root != topPage {
		t.Errorf("all pages: %d, %d", pagesOf(writes), root)
	}
	l[24].Bytes = varied(24, 361)
	checkNeed(t, 0, l...)
	refused(t, l, nil, seq(2, api.MaxPages), api.ErrFull)
}

func TestP1601PlanThereAlready(t *testing.T) {
	empty, other := laid(sheet.Index()), laid(sheet.Index(slot(1, 2)))
	checkPlan(t, nil, []Write{at(8, empty), at(3, empty)}, []int{2}, nil, 8, api.OK)
	checkPlan(t, nil, []Write{at(5, other), at(9, empty), at(3, empty), at(4, empty)}, []int{2}, nil, 9, api.OK)
	checkPlan(t, nil, []Write{at(5, other), at(4, empty[:127]), at(6, empty+"\x00"), at(7, "")}, []int{2}, []Write{at(2, empty)}, 2, api.OK)
	checkPlan(t, nil, []Write{at(2, empty), at(topPage, empty)}, nil, nil, 2, api.OK)
	// A page that is named twice: its bytes are those of one, and of the other.
	checkPlan(t, nil, []Write{at(8, other), at(8, empty)}, nil, nil, 8, api.OK)
	checkPlan(t, nil, []Write{at(8, empty), at(8, empty)}, nil, nil, 8, api.OK)
	leaf := laid(sheet.Leaf(short(1, "a")))
	want := []Write{at(6, laid(sheet.Index(slot(1, 12))))}
	checkPlan(t, []Record{rec(1, "a")}, []Write{at(12, leaf), at(11, leaf), at(3, empty)}, []int{6, 7}, want, 6, api.OK)
	// An index that names the other leaf is none of this one.
	there := at(4, laid(sheet.Index(slot(1, 11))))
	checkPlan(t, []Record{rec(1, "a")}, []Write{there, at(12, leaf), at(11, leaf)}, []int{6, 7}, want, 6, api.OK)
	there = at(4, laid(sheet.Index(slot(1, 12))))
	checkPlan(t, []Record{rec(1, "a")}, []Write{there, at(12, leaf), at(11, leaf)}, []int{6, 7}, nil, 4, api.OK)
}

func TestP1601PlanPiecesThereAlready(t *testing.T) {
	b := varied(1, 250)
	last := laid(sheet.Chain(0, b[240:]))
	// Two pages have the last piece: the first of them counts, so that the piece ahead of the other one is of no use.
	have := []Write{at(30, last), at(20, last), at(21, laid(sheet.Chain(20, b[120:240])))}
	want := []Write{
		at(9, laid(sheet.Chain(30, b[120:240]))),
		at(8, laid(sheet.Chain(9, b[:120]))),
		at(7, laid(sheet.Leaf(long(4, 250, 8)))),
		at(6, laid(sheet.Index(slot(4, 7)))),
	}
	checkPlan(t, []Record{rec(4, b)}, have, []int{9, 8, 7, 6, 5}, want, 6, api.OK)
	have[0], have[1] = have[1], have[0]
	want = []Write{
		at(9, laid(sheet.Chain(21, b[:120]))),
		at(8, laid(sheet.Leaf(long(4, 250, 9)))),
		at(7, laid(sheet.Index(slot(4, 8)))),
	}
	checkPlan(t, []Record{rec(4, b)}, have, []int{9, 8, 7, 6, 5}, want, 7, api.OK)
}

func TestP1601PlanToBeWritten(t *testing.T) {
	b := xs(120) + strings.Repeat("y", 10)
	want := []Write{
		at(2, laid(sheet.Chain(0, b[120:]))),
		at(3, laid(sheet.Chain(2, b[:120]))),
		at(4, laid(sheet.Leaf(long(1, 130, 3), long(2, 130, 3)))),
		at(5, laid(sheet.Index(slot(1, 4)))),
	}
	checkPlan(t, []Record{rec(1, b), rec(2, b)}, nil, seq(2, 9), want, 5, api.OK)
	// One that begins otherwise, but ends alike; one that is all the end of another; one whose pieces are those of another at another place.
	l := []Record{rec(1, varied(1, 120)+xs(30)), rec(2, varied(2, 120)+xs(30)), rec(3, xs(30)), rec(4, xs(30)+varied(1, 90))}
	want = []Write{
		at(2, laid(sheet.Chain(0, xs(30)))),
		at(3, laid(sheet.Chain(2, varied(1, 120)))),
		at(4, laid(sheet.Chain(2, varied(2, 120)))),
		at(5, laid(sheet.Chain(0, xs(30)+varied(1, 90)))),
		at(6, laid(sheet.Leaf(long(1, 150, 3), long(2, 150, 4), long(3, 30, 2), long(4, 120, 5)))),
		at(7, laid(sheet.Index(slot(1, 6)))),
	}
	checkPlan(t, l, nil, seq(2, 20), want, 7, api.OK)
	// Of the same bytes in all pieces each is another page, for each names another one.
	want = []Write{
		at(2, laid(sheet.Chain(0, xs(120)))),
		at(3, laid(sheet.Chain(2, xs(120)))),
		at(4, laid(sheet.Chain(3, xs(120)))),
		at(5, laid(sheet.Leaf(long(1, 120, 2), long(2, 240, 3), long(3, 360, 4)))),
		at(6, laid(sheet.Index(slot(1, 5)))),
	}
	checkPlan(t, []Record{rec(1, xs(120)), rec(2, xs(240)), rec(3, xs(360))}, nil, seq(2, 20), want, 6, api.OK)
}

func TestP1601PlanHaveAheadOfWritten(t *testing.T) {
	b := varied(1, 25)
	have := []Write{at(40, laid(sheet.Chain(0, b)))}
	want := []Write{
		at(2, laid(sheet.Chain(0, varied(2, 25)))),
		at(3, laid(sheet.Leaf(long(1, 25, 2), long(2, 25, 40), long(3, 25, 40), long(4, 25, 2)))),
		at(4, laid(sheet.Index(slot(1, 3)))),
	}
	l := []Record{rec(1, varied(2, 25)), rec(2, b), rec(3, b), rec(4, varied(2, 25))}
	checkPlan(t, l, have, seq(2, 9), want, 4, api.OK)
}

func TestP1601PlanPages(t *testing.T) {
	one := []Record{rec(1, "a")}
	for _, n := range []int{2, 3, topPage - 1, topPage} {
		leaf, index := laid(sheet.Leaf(short(1, "a"))), laid(sheet.Index(slot(1, n)))
		checkPlan(t, one, nil, []int{n, 77}, []Write{at(n, leaf), at(77, index)}, 77, api.OK)
		checkPlan(t, one, []Write{at(n, leaf)}, []int{77}, []Write{at(77, index)}, 77, api.OK)
	}
	for _, n := range []int{1, 0, -1, api.MaxPages, api.MaxPages + 1, 258, 1<<16 + 5, math.MaxInt, math.MinInt} {
		refused(t, one, nil, []int{n}, api.ErrArg)
		refused(t, one, nil, []int{n, 5, 6}, api.ErrArg)
		refused(t, one, nil, []int{5, 6, 7, n}, api.ErrArg)
		refused(t, one, []Write{at(n, "")}, []int{5, 6}, api.ErrArg)
		refused(t, one, []Write{at(8, ""), at(n, xs(128))}, []int{5, 6}, api.ErrArg)
		refused(t, nil, []Write{at(n, laid(sheet.Index()))}, nil, api.ErrArg)
	}
}

func TestP1601PlanPagesTwice(t *testing.T) {
	one := []Record{rec(1, "a")}
	for _, n := range []int{2, 50, topPage} {
		refused(t, one, nil, []int{n, n}, api.ErrArg)
		refused(t, one, nil, []int{n, 7, 8, n}, api.ErrArg)
		refused(t, one, nil, []int{7, 8, 9, n, n}, api.ErrArg)
		refused(t, one, []Write{at(n, "")}, []int{n, 7, 8}, api.ErrArg)
		refused(t, one, []Write{at(n, "")}, []int{7, 8, n}, api.ErrArg)
		refused(t, one, []Write{at(9, ""), at(n, "")}, []int{7, 8, n}, api.ErrArg)
		refused(t, nil, []Write{at(9, laid(sheet.Index())), at(n, "")}, []int{7, 8, n}, api.ErrArg)
	}
}

func TestP1601PlanWhichErrorCounts(t *testing.T) {
	many := alike(85, xs(24))
	wrong := append(alike(85, xs(24)), rec(0, ""))
	refused(t, wrong, nil, nil, api.ErrArg)
	refused(t, wrong, nil, seq(2, api.MaxPages), api.ErrArg)
	refused(t, many, nil, []int{2, 2}, api.ErrArg)
	refused(t, many, nil, []int{1}, api.ErrArg)
	refused(t, many, []Write{at(200, "")}, nil, api.ErrArg)
	refused(t, many, []Write{at(3, "")}, []int{3}, api.ErrArg)
	refused(t, many, nil, nil, api.ErrMany)
	refused(t, many, nil, []int{2}, api.ErrMany)
	// The pieces of these have no room, but there would be too many leaves of them.
	var long []Record
	for key := range 21*15 + 1 {
		long = append(long, rec(key, varied(key%100, 900)))
	}
	refused(t, long, nil, seq(2, api.MaxPages), api.ErrMany)
	refused(t, long[:21*15], nil, seq(2, api.MaxPages), api.ErrFull)
	refused(t, []Record{rec(1, "")}, nil, []int{2}, api.ErrFull)
	refused(t, []Record{rec(-1, "")}, nil, nil, api.ErrArg)
	refused(t, nil, nil, []int{5, 5}, api.ErrArg)
}

func TestP1602ReadNone(t *testing.T) {
	for _, root := range []int{2, 50, topPage} {
		checkRead(t, root, written([]Write{at(root, laid(sheet.Index()))}), nil, root)
	}
}

func TestP1602Read(t *testing.T) {
	d := tree(laid(sheet.Index(slot(0, 3))), laid(sheet.Leaf(short(0, ""), short(1, "a"), short(topKey, varied(1, 24)))))
	checkRead(t, 2, d, []Record{rec(0, ""), rec(1, "a"), rec(topKey, varied(1, 24))}, 2, 3)
	// Pages rise, whatever the order of reading.
	b := varied(2, 250)
	d = written([]Write{
		at(9, laid(sheet.Index(slot(3, 5), slot(8, 12)))),
		at(5, laid(sheet.Leaf(short(3, "c"), long(7, 250, 199)))),
		at(12, laid(sheet.Leaf(long(8, 25, 4)))),
		at(199, laid(sheet.Chain(2, b[:120]))),
		at(2, laid(sheet.Chain(100, b[120:240]))),
		at(100, laid(sheet.Chain(0, b[240:]))),
		at(4, laid(sheet.Chain(0, varied(3, 25)))),
		at(6, laid(sheet.Index())),
	})
	checkRead(t, 9, d, []Record{rec(3, "c"), rec(7, b), rec(8, varied(3, 25))}, 2, 4, 5, 9, 12, 100, 199)
}

func TestP1602ReadSizes(t *testing.T) {
	for n := range api.MaxRecord + 1 {
		b := varied(1, n)
		writes, root := planned(t, []Record{rec(4, b)}, nil, seq(2, 20))
		checkRead(t, root, written(writes), []Record{rec(4, b)}, seq(2, 2+len(writes))...)
	}
}

func TestP1602ReadLessThanFullLeaves(t *testing.T) {
	// Whatever has its keys rising is read, though Plan would have laid it otherwise.
	index := laid(sheet.Index(slot(1, 3), slot(2, 4), slot(3, 5)))
	d := tree(index, laid(sheet.Leaf(short(1, "a"))), laid(sheet.Leaf(short(2, "b"))), laid(sheet.Leaf(short(3, "c"), short(9, ""))))
	checkRead(t, 2, d, []Record{rec(1, "a"), rec(2, "b"), rec(3, "c"), rec(9, "")}, 2, 3, 4, 5)
}

func TestP1602ReadPagesOnce(t *testing.T) {
	b := varied(1, 120) + varied(2, 30)
	d := tree(
		laid(sheet.Index(slot(1, 3), slot(4, 6))),
		laid(sheet.Leaf(long(1, 150, 4), long(2, 30, 5), long(3, 150, 4))),
		laid(sheet.Chain(5, b[:120])),
		laid(sheet.Chain(0, b[120:])),
		laid(sheet.Leaf(long(4, 30, 5), long(5, 150, 7))),
		laid(sheet.Chain(5, xs(120))),
	)
	want := []Record{rec(1, b), rec(2, b[120:]), rec(3, b), rec(4, b[120:]), rec(5, xs(120)+b[120:])}
	checkRead(t, 2, d, want, 2, 3, 4, 5, 6, 7)
}

func TestP1602ReadNilLoad(t *testing.T) {
	for _, root := range []int{2, 0, -1, topPage, api.MaxPages} {
		if l, pages, err := Read(root, nil); len(l) != 0 || len(pages) != 0 || err != api.ErrArg {
			t.Errorf("Read(%d, nil): %#v, %#v, %d", root, l, pages, err)
		}
	}
}

// sample is a tree with two leaves and chains, and its pages in the order of reading.
func sample() (*disk, []int) {
	a, b, c := varied(1, 130), varied(2, 240), varied(3, 25)
	d := written([]Write{
		at(20, laid(sheet.Index(slot(1, 9), slot(6, 30)))),
		at(9, laid(sheet.Leaf(long(1, 130, 17), short(2, "b"), long(3, 240, 5)))),
		at(17, laid(sheet.Chain(8, a[:120]))),
		at(8, laid(sheet.Chain(0, a[120:]))),
		at(5, laid(sheet.Chain(40, b[:120]))),
		at(40, laid(sheet.Chain(0, b[120:]))),
		at(30, laid(sheet.Leaf(long(6, 25, 11), long(7, 130, 12)))),
		at(11, laid(sheet.Chain(0, c))),
		at(12, laid(sheet.Chain(8, xs(120)))),
	})
	return d, []int{20, 9, 17, 8, 5, 40, 30, 11, 12}
}

func TestP1602ReadOrder(t *testing.T) {
	d, order := sample()
	if _, _, err := Read(20, d.load); err != api.OK || !slices.Equal(d.loaded, order) {
		t.Errorf("loaded %d, %d, not %d", d.loaded, err, order)
	}
}

func TestP1602ReadLoadFails(t *testing.T) {
	_, order := sample()
	for i, n := range order {
		for _, err := range []api.Errno{api.ErrNaN, api.ErrForm, api.ErrRange, api.ErrDead, api.ErrArg, api.ErrUsed, -1, 99} {
			d, _ := sample()
			d.fails[n] = err // with the right bytes beside it
			notRead(t, 20, d, err, i+1)
		}
		d, _ := sample()
		delete(d.pages, n)
		notRead(t, 20, d, api.ErrRange, i+1)
	}
	for _, root := range []int{0, 1, -1, 19, 21, api.MaxPages, math.MaxInt, math.MinInt} {
		d, _ := sample()
		notRead(t, root, d, api.ErrRange, 1)
	}
}

func TestP1602ReadOtherPages(t *testing.T) {
	_, order := sample()
	for i, n := range order {
		d, _ := sample()
		right := d.pages[n]
		wrong := []string{
			"", right[:127], right + "\x00", right[:127] + "\x01", strings.Repeat("\x00", 128), xs(128), "c" + right[1:],
			laid(sheet.Leaf()),
		}
		if right[0] != 'I' {
			wrong = append(wrong, laid(sheet.Index()), laid(sheet.Index(slot(1, 9), slot(6, 30))))
		}
		if right[0] != 'L' {
			wrong = append(wrong, laid(sheet.Leaf(short(1, "a"))), laid(sheet.Leaf(short(6, "a"))))
		}
		if right[0] != 'C' {
			wrong = append(wrong, laid(sheet.Chain(0, "a")), laid(sheet.Chain(8, xs(120))))
		}
		for _, b := range wrong {
			d.pages[n] = b
			notRead(t, 20, d, api.ErrForm, i+1)
		}
	}
}

func TestP1602ReadWhatComesFirst(t *testing.T) {
	_, order := sample()
	for i, wrong := range order {
		for j, fails := range order {
			d, _ := sample()
			d.pages[wrong] = xs(128)
			d.fails[fails] = api.ErrDead
			want := api.ErrForm
			if j <= i {
				want = api.ErrDead
			}
			notRead(t, 20, d, want, min(i, j)+1)
		}
	}
}

func TestP1602ReadRoundTheTree(t *testing.T) {
	// Pages that hang on one another in a ring are of a wrong kind at one of their places.
	notRead(t, 2, tree(laid(sheet.Index(slot(1, 2)))), api.ErrForm, 1)
	notRead(t, 2, tree(laid(sheet.Index(slot(1, 3))), laid(sheet.Leaf(long(1, 25, 2)))), api.ErrForm, 2)
	notRead(t, 2, tree(laid(sheet.Index(slot(1, 3))), laid(sheet.Leaf(long(1, 25, 3)))), api.ErrForm, 2)
	// A leaf in two slots is not what the second one says.
	notRead(t, 2, tree(laid(sheet.Index(slot(1, 3), slot(2, 3))), laid(sheet.Leaf(short(1, "a"), short(2, "b")))), api.ErrForm, 2)
}

func TestP1602ReadFirstKey(t *testing.T) {
	for _, key := range []int{0, 1, 3, topKey} {
		d := tree(laid(sheet.Index(slot(2, 3))), laid(sheet.Leaf(long(key, 25, 4))), laid(sheet.Chain(0, xs(25))))
		notRead(t, 2, d, api.ErrForm, 2)
	}
	// It is there, but not the first.
	d := tree(laid(sheet.Index(slot(2, 3))), laid(sheet.Leaf(short(1, ""), short(2, ""))))
	notRead(t, 2, d, api.ErrForm, 2)
	// The second leaf's, behind the chain of the first and ahead of its own.
	index, first := laid(sheet.Index(slot(1, 3), slot(5, 5))), laid(sheet.Leaf(long(1, 25, 4)))
	for _, key := range []int{2, 4, 6, topKey} {
		d = tree(index, first, laid(sheet.Chain(0, xs(25))), laid(sheet.Leaf(long(key, 26, 6))), laid(sheet.Chain(0, xs(26))))
		notRead(t, 2, d, api.ErrForm, 4)
		d.fails[4] = api.ErrDead
		notRead(t, 2, d, api.ErrDead, 3)
	}
}

func TestP1602ReadKeysRise(t *testing.T) {
	index := laid(sheet.Index(slot(1, 3), slot(5, 4)))
	second := laid(sheet.Leaf(short(5, "b")))
	checkRead(t, 2, tree(index, laid(sheet.Leaf(short(1, ""), short(4, "a"))), second), []Record{rec(1, ""), rec(4, "a"), rec(5, "b")}, 2, 3, 4)
	for _, key := range []int{5, 6, topKey} {
		notRead(t, 2, tree(index, laid(sheet.Leaf(short(1, ""), short(key, "a"))), second), api.ErrForm, 3)
		notRead(t, 2, tree(index, laid(sheet.Leaf(short(1, ""), short(2, ""), short(key, "a"))), second), api.ErrForm, 3)
		// The second leaf must be read for that, behind the chains of the first, ahead of its own.
		d := tree(index, laid(sheet.Leaf(short(1, ""), long(key, 25, 5))), laid(sheet.Leaf(long(5, 26, 6))), laid(sheet.Chain(0, xs(25))), laid(sheet.Chain(0, xs(26))))
		notRead(t, 2, d, api.ErrForm, 4)
		d.fails[4] = api.ErrDead
		notRead(t, 2, d, api.ErrDead, 4)
		d.fails[5] = api.ErrNaN
		notRead(t, 2, d, api.ErrNaN, 3)
	}
	// Not all slots need be behind the first leaf's last key for the third leaf to be wrong.
	index = laid(sheet.Index(slot(1, 3), slot(5, 4), slot(7, 5)))
	notRead(t, 2, tree(index, laid(sheet.Leaf(short(1, ""))), laid(sheet.Leaf(short(5, ""), short(7, ""))), laid(sheet.Leaf(short(7, "")))), api.ErrForm, 4)
}

func TestP1602ReadLeafOfNone(t *testing.T) {
	empty := laid(sheet.Leaf())
	for _, key := range []int{0, 1, topKey} {
		notRead(t, 2, tree(laid(sheet.Index(slot(key, 3))), empty), api.ErrForm, 2)
	}
	notRead(t, 2, tree(laid(sheet.Index(slot(0, 3), slot(1, 4))), laid(sheet.Leaf(short(0, ""))), empty), api.ErrForm, 3)
	notRead(t, 2, tree(laid(sheet.Index(slot(0, 4), slot(1, 3))), laid(sheet.Leaf(short(0, ""))), empty), api.ErrForm, 2)
}

// piece is a page of a chain, and how many bytes it has.
type piece struct{ next, size int }

// chained is a tree with one record of this size, and pieces from page 4 on.
func chained(size int, pieces ...piece) *disk {
	pages := []string{laid(sheet.Index(slot(1, 3))), laid(sheet.Leaf(long(1, size, 4)))}
	for i, p := range pieces {
		pages = append(pages, laid(sheet.Chain(p.next, varied(i, p.size))))
	}
	return tree(pages...)
}

func TestP1602ReadChains(t *testing.T) {
	checkRead(t, 2, chained(25, piece{0, 25}), []Record{rec(1, varied(0, 25))}, 2, 3, 4)
	checkRead(t, 2, chained(120, piece{0, 120}), []Record{rec(1, varied(0, 120))}, 2, 3, 4)
	checkRead(t, 2, chained(121, piece{5, 120}, piece{0, 1}), []Record{rec(1, varied(0, 120)+varied(1, 1))}, 2, 3, 4, 5)
	checkRead(t, 2, chained(240, piece{5, 120}, piece{0, 120}), []Record{rec(1, varied(0, 120)+varied(1, 120))}, 2, 3, 4, 5)
	tests := []struct {
		size   int
		pieces []piece
		loads  int
	}{
		// too few
		{121, []piece{{0, 120}}, 3},
		{130, []piece{{0, 120}}, 3},
		{240, []piece{{0, 120}}, 3},
		{241, []piece{{5, 120}, {0, 120}}, 4},
		{900, []piece{{5, 120}, {6, 120}, {7, 120}, {8, 120}, {9, 120}, {10, 120}, {0, 120}}, 9},
		// too many
		{25, []piece{{5, 25}, {0, 1}}, 3},
		{120, []piece{{5, 120}, {0, 120}}, 3},
		{120, []piece{{5, 120}}, 3},
		{130, []piece{{5, 120}, {6, 10}, {0, 1}}, 4},
		{130, []piece{{5, 120}, {6, 10}}, 4},
		{240, []piece{{5, 120}, {6, 120}, {0, 120}}, 4},
		// not as long
		{25, []piece{{0, 24}}, 3},
		{25, []piece{{0, 26}}, 3},
		{25, []piece{{0, 120}}, 3},
		{25, []piece{{5, 24}, {0, 1}}, 3},
		{120, []piece{{0, 119}}, 3},
		{120, []piece{{5, 119}, {0, 1}}, 3},
		{120, []piece{{5, 60}, {0, 60}}, 3},
		{130, []piece{{5, 119}, {0, 11}}, 3},
		{130, []piece{{5, 119}, {0, 10}}, 3},
		{130, []piece{{5, 10}, {0, 120}}, 3},
		{130, []piece{{5, 65}, {0, 65}}, 3},
		{130, []piece{{5, 120}, {0, 9}}, 4},
		{130, []piece{{5, 120}, {0, 11}}, 4},
		{130, []piece{{5, 120}, {0, 120}}, 4},
		{240, []piece{{5, 120}, {0, 119}}, 4},
		{241, []piece{{5, 120}, {6, 119}, {0, 2}}, 4},
		// one that goes round
		{25, []piece{{4, 25}}, 3},
		{120, []piece{{4, 120}}, 3},
		{130, []piece{{4, 120}}, 3},
		{130, []piece{{5, 120}, {5, 10}}, 4},
		{130, []piece{{5, 120}, {4, 10}}, 4},
		{240, []piece{{4, 120}}, 3},
		{240, []piece{{5, 120}, {4, 120}}, 4},
		{360, []piece{{5, 120}, {4, 120}}, 4},
		{900, []piece{{4, 120}}, 3},
		{900, []piece{{5, 120}, {5, 60}}, 4},
		{900, []piece{{5, 120}, {6, 120}, {4, 120}}, 5},
		// into the tree above it
		{130, []piece{{2, 120}}, 3},
		{130, []piece{{3, 120}}, 3},
	}
	for _, test := range tests {
		notRead(t, 2, chained(test.size, test.pieces...), api.ErrForm, test.loads)
	}
}

func TestP1602Need(t *testing.T) {
	checkNeed(t, 1)
	checkNeed(t, 2, rec(1, ""))
	checkNeed(t, 2, rec(1, xs(24)))
	checkNeed(t, 3, rec(1, xs(25)))
	checkNeed(t, 3, rec(1, xs(120)))
	checkNeed(t, 4, rec(1, xs(121)))
	checkNeed(t, 10, rec(1, xs(900)))
	checkNeed(t, 4, rec(1, xs(120)), rec(2, xs(120)), rec(3, xs(240)))
	checkNeed(t, 5, rec(1, varied(1, 120)), rec(2, varied(2, 120)), rec(3, varied(3, 120)))
	checkNeed(t, 2, alike(21, "")...)
	checkNeed(t, 3, alike(22, "")...)
	checkNeed(t, 22, alike(84, xs(24))...)
	checkNeed(t, 22, alike(21*21, "")...)
	checkNeed(t, 23, alike(21*15, xs(25))...)
}

func TestP1602NeedOfNone(t *testing.T) {
	checkNeed(t, 0, rec(-1, ""))
	checkNeed(t, 0, rec(topKey+1, ""))
	checkNeed(t, 0, rec(2, ""), rec(1, ""))
	checkNeed(t, 0, rec(2, ""), rec(2, ""))
	checkNeed(t, 0, rec(2, xs(901)))
	checkNeed(t, 0, alike(85, xs(24))...)
	checkNeed(t, 0, alike(21*21+1, "")...)
}

// plain plans as the chapter says, word for word, and reckons itself what has room in a leaf.
func plain(l []Record, have []Write, free []int) ([]Write, int, api.Errno) {
	if !plainRight(l) || !plainPages(have, free) {
		return nil, 0, api.ErrArg
	}
	parts := plainParts(l)
	if len(parts) > 21 {
		return nil, 0, api.ErrMany
	}
	var writes []Write
	full := false
	place := func(b string, ok bool) int {
		for _, w := range append(slices.Clone(have), writes...) {
			if w.Bytes == b {
				return w.Page
			}
		}
		if full || len(writes) == len(free) {
			full = true
			return 2
		}
		writes = append(writes, at(free[len(writes)], b))
		return writes[len(writes)-1].Page
	}
	chains := map[int]int{}
	for _, r := range l {
		if len(r.Bytes) <= 24 {
			continue
		}
		page := 0
		for i := (len(r.Bytes) - 1) / 120; i >= 0; i-- {
			page = place(sheet.Chain(page, r.Bytes[120*i:min(120*i+120, len(r.Bytes))]))
		}
		chains[r.Key] = page
	}
	var slots []sheet.Slot
	for _, part := range parts {
		var cells []sheet.Cell
		for _, r := range part {
			if page, is := chains[r.Key]; is {
				cells = append(cells, long(r.Key, len(r.Bytes), page))
			} else {
				cells = append(cells, short(r.Key, r.Bytes))
			}
		}
		slots = append(slots, slot(part[0].Key, place(sheet.Leaf(cells...))))
	}
	root := place(sheet.Index(slots...))
	if full {
		return nil, 0, api.ErrFull
	}
	return writes, root, api.OK
}

func plainRight(l []Record) bool {
	for i, r := range l {
		if r.Key < 0 || r.Key >= 1<<31 || len(r.Bytes) > 900 || i > 0 && l[i-1].Key >= r.Key {
			return false
		}
	}
	return true
}

func plainPages(have []Write, free []int) bool {
	for _, n := range append(pagesOf(have), free...) {
		if n < 2 || n > 199 {
			return false
		}
	}
	for i, n := range free {
		if slices.Contains(free[:i], n) || slices.Contains(pagesOf(have), n) {
			return false
		}
	}
	return true
}

func plainParts(l []Record) [][]Record {
	var parts [][]Record
	left := 0
	for _, r := range l {
		need := 4 + 2 + len(r.Bytes)
		if len(r.Bytes) > 24 {
			need = 4 + 2 + 2
		}
		if len(parts) == 0 || need > left {
			parts = append(parts, nil)
			left = 128 - 2
		}
		parts[len(parts)-1] = append(parts[len(parts)-1], r)
		left -= need
	}
	return parts
}

// someRecords draws right ones, of which many have pieces in common.
func someRecords(draw *rand.Rand, most int) []Record {
	sizes := []int{0, 1, 3, 10, 17, 23, 24, 25, 26, 60, 119, 120, 121, 150, 240, 241, 480, 899, 900}
	var l []Record
	key := draw.IntN(3)
	for range draw.IntN(most + 1) {
		n := sizes[draw.IntN(len(sizes))]
		b := []byte(strings.Repeat("x", n))
		for from := 0; from < n; from += 120 {
			if draw.IntN(2) == 0 {
				b[from] = byte('a' + draw.IntN(4))
			}
		}
		l = append(l, rec(key, string(b)))
		key += 1 + draw.IntN(3)
	}
	return l
}

// somePages draws which pages are there, of those of an older list, and which are free.
func somePages(draw *rand.Rand, old []Record) ([]Write, []int) {
	pages := seq(2, api.MaxPages)
	draw.Shuffle(len(pages), func(i, j int) { pages[i], pages[j] = pages[j], pages[i] })
	writes, _, _ := plain(old, nil, pages)
	var have []Write
	for _, w := range writes {
		if draw.IntN(5) > 0 {
			have = append(have, w)
		}
	}
	free := pages[len(writes):]
	for range draw.IntN(4) {
		if len(free) > 0 && len(have) > 0 {
			// The same bytes lie elsewhere too.
			again := at(free[0], have[draw.IntN(len(have))].Bytes)
			have = slices.Insert(have, draw.IntN(len(have)+1), again)
			free = free[1:]
		}
	}
	return have, free[:draw.IntN(len(free)+1)]
}

// TestP1601P1603AsPlain draws records and pages, holds Plan against the plain one, and reads what it planned.
func TestP1601P1603AsPlain(t *testing.T) {
	draw := rand.New(rand.NewPCG(16, 1))
	counts := map[api.Errno]int{}
	for range 2500 {
		old := someRecords(draw, 40)
		l := someRecords(draw, 40)
		if draw.IntN(2) == 0 && len(old) > 0 {
			l = slices.Clone(old)
			l[draw.IntN(len(l))].Bytes = xs(draw.IntN(901))
		}
		if draw.IntN(10) == 0 {
			l = someRecords(draw, 300)
		}
		if draw.IntN(20) == 0 && len(l) > 0 {
			l[draw.IntN(len(l))].Key = draw.IntN(9) - 1
		}
		have, free := somePages(draw, old)
		want, root, err := plain(l, have, free)
		counts[err]++
		checkPlan(t, l, have, free, want, root, err)
		if err == api.OK {
			checkThereAndBack(t, l, have, want, root)
		}
	}
	for _, err := range []api.Errno{api.OK, api.ErrArg, api.ErrMany, api.ErrFull} {
		if counts[err] < 20 {
			t.Errorf("just %d of %d", counts[err], err)
		}
	}
}

// checkThereAndBack wants that the records are read, and that each page that was to be written is of use.
func checkThereAndBack(t *testing.T, l []Record, have, writes []Write, root int) {
	t.Helper()
	d := written(have, writes)
	got, pages, err := Read(root, d.load)
	if err != api.OK || !slices.Equal(got, l) {
		t.Fatalf("Read: %#v, %d, not %#v", got, err, l)
	}
	slices.Sort(d.loaded)
	if !slices.Equal(pagesOf(pages), d.loaded) || len(slices.Compact(d.loaded)) != len(pages) {
		t.Errorf("Read tells the pages %d, and loaded %d", pagesOf(pages), d.loaded)
	}
	for _, w := range pages {
		if w.Bytes != d.pages[w.Page] {
			t.Errorf("Read tells %q of page %d, not %q", w.Bytes, w.Page, d.pages[w.Page])
		}
	}
	for _, w := range writes {
		if !slices.Contains(pages, w) {
			t.Errorf("page %d was to be written, and is not read: %d", w.Page, pagesOf(pages))
		}
	}
	// What was read is there: the same records need no page more.
	checkPlan(t, l, pages, nil, nil, root, api.OK)
}

func TestP1602NeedAsPlain(t *testing.T) {
	draw := rand.New(rand.NewPCG(16, 2))
	for range 500 {
		l := someRecords(draw, 60)
		writes, _, _ := plain(l, nil, seq(2, api.MaxPages))
		checkNeed(t, len(writes), l...)
	}
}

func TestP1603(t *testing.T) {
	lists := [][]Record{
		nil,
		{rec(0, "")},
		{rec(topKey, varied(1, 900))},
		{rec(0, ""), rec(1, varied(1, 24)), rec(2, varied(2, 25)), rec(900, varied(3, 900)), rec(topKey, varied(4, 120))},
		alike(84, varied(5, 24)),
		alike(21*21, ""),
		alike(21*15, varied(6, 900)),
	}
	for _, l := range lists {
		writes, root := planned(t, l, nil, seq(2, api.MaxPages))
		checkThereAndBack(t, l, nil, writes, root)
		for _, next := range lists {
			// Onto what is there, of which nothing is written over.
			more, root, err := Plan(next, writes, seq(2+len(writes), api.MaxPages))
			if err == api.OK {
				checkThereAndBack(t, next, writes, more, root)
			}
			checkThereAndBack(t, l, writes, nil, writes[len(writes)-1].Page)
		}
	}
}

// apart wants that an answer is no piece of other bytes.
func apart(t *testing.T, b, answer string) {
	t.Helper()
	from, at := uintptr(unsafe.Pointer(unsafe.StringData(b))), uintptr(unsafe.Pointer(unsafe.StringData(answer)))
	if b != "" && answer != "" && from <= at && at < from+uintptr(len(b)) {
		t.Errorf("%q is a piece of %q", answer, b)
	}
}

func TestP1601AnswersAreNew(t *testing.T) {
	l := []Record{rec(1, varied(1, 24)), rec(2, varied(2, 25)), rec(3, varied(3, 240))}
	free := seq(2, 20)
	first, root := planned(t, l, nil, free)
	again, _ := planned(t, l, nil, free)
	for i, w := range first {
		apart(t, again[i].Bytes, w.Bytes)
		for _, r := range l {
			apart(t, r.Bytes, w.Bytes)
		}
		first[i] = at(-1, "")
	}
	checkPlan(t, l, nil, free, again, root, api.OK)
	// What is behind the end of a list that was handed in stays as it was, too.
	room, pages := []Write{at(-7, "behind")}, append(seq(2, 20), -7)
	planned(t, l, room[:0], pages[:len(pages)-1])
	if room[0] != at(-7, "behind") || !slices.Equal(pages, append(seq(2, 20), -7)) {
		t.Errorf("Plan turned what is behind a list's end: %#v, %d", room, pages)
	}
}

func TestP1602AnswersAreNew(t *testing.T) {
	d, _ := sample()
	l, pages, _ := Read(20, d.load)
	l2, pages2, _ := Read(20, d.load)
	for _, w := range pages {
		apart(t, d.pages[w.Page], w.Bytes)
		for _, other := range pages2 {
			apart(t, other.Bytes, w.Bytes)
		}
	}
	for i, r := range l {
		for _, w := range slices.Concat(pages, pages2) {
			apart(t, w.Bytes, r.Bytes)
			apart(t, d.pages[w.Page], r.Bytes)
		}
		for j, other := range slices.Concat(l, l2) {
			if i != j {
				apart(t, other.Bytes, r.Bytes)
			}
		}
	}
	want, wantPages := slices.Clone(l), slices.Clone(pages)
	clear(l)
	clear(pages)
	if !slices.Equal(l2, want) || !slices.Equal(pages2, wantPages) {
		t.Errorf("an answer of Read turned with another one: %#v, %#v", l2, pages2)
	}
}
