package sheet

import (
	"encoding/binary"
	"math"
	"slices"
	"strings"
	"testing"
	"unsafe"

	"maquette/api"
)

const (
	size    = api.PageSize
	topKey  = 1<<31 - 1
	topPage = api.MaxPages - 1
)

// filledUp is b, and zeros behind it.
func filledUp(b string) string { return b + strings.Repeat("\x00", size-len(b)) }

func xs(n int) string { return strings.Repeat("x", n) }

func slot(key, page int) Slot { return Slot{Key: key, Page: page} }

func short(key int, b string) Cell { return Cell{Key: key, Size: len(b), Bytes: b} }

func long(key, size, page int) Cell { return Cell{Key: key, Size: size, Page: page} }

// laidIndex, laidLeaf and laidChain lay bytes as the chapter says, whether there may be such a page or not.
func laidIndex(count int, l ...Slot) string {
	b := []byte{'I', byte(count)}
	for _, s := range l {
		b = binary.BigEndian.AppendUint32(b, uint32(s.Key))
		b = binary.BigEndian.AppendUint16(b, uint16(s.Page))
	}
	return filledUp(string(b))
}

func laidLeaf(count int, l ...Cell) string {
	b := []byte{'L', byte(count)}
	for _, c := range l {
		b = binary.BigEndian.AppendUint32(b, uint32(c.Key))
		b = binary.BigEndian.AppendUint16(b, uint16(c.Size))
		if c.Size <= api.Inline {
			b = append(b, c.Bytes...)
		} else {
			b = binary.BigEndian.AppendUint16(b, uint16(c.Page))
		}
	}
	return filledUp(string(b))
}

func laidChain(next, count int, text string) string {
	b := binary.BigEndian.AppendUint16([]byte{'C'}, uint16(next))
	return filledUp(string(append(b, byte(count))) + text)
}

// indexMay wants that there is this Index, and that all of it comes back.
func indexMay(t *testing.T, l ...Slot) {
	t.Helper()
	was, want := slices.Clone(l), laidIndex(len(l), l...)
	b, ok := Index(l...)
	if !ok || b != want || len(b) != size {
		t.Errorf("Index(%d): %d bytes, %q, %t, not %q", was, len(b), b, ok, want)
	}
	if !slices.Equal(l, was) {
		t.Errorf("Index turned %d to %d", was, l)
	}
	isSlots(t, want, was...)
}

func indexNot(t *testing.T, l ...Slot) {
	t.Helper()
	was := slices.Clone(l)
	if b, ok := Index(l...); ok || b != "" {
		t.Errorf("Index(%d): %q, %t", was, b, ok)
	}
	if !slices.Equal(l, was) {
		t.Errorf("Index turned %d to %d", was, l)
	}
}

// leafMay wants that there is this Leaf, and that all of it comes back.
func leafMay(t *testing.T, l ...Cell) {
	t.Helper()
	was, want := slices.Clone(l), laidLeaf(len(l), l...)
	b, ok := Leaf(l...)
	if !ok || b != want || len(b) != size {
		t.Errorf("Leaf(%#v): %d bytes, %q, %t, not %q", was, len(b), b, ok, want)
	}
	if !Fits(l...) {
		t.Errorf("Fits(%#v): false", was)
	}
	if !slices.Equal(l, was) {
		t.Errorf("Leaf or Fits turned %#v to %#v", was, l)
	}
	isCells(t, want, was...)
}

func leafNot(t *testing.T, l ...Cell) {
	t.Helper()
	was := slices.Clone(l)
	if b, ok := Leaf(l...); ok || b != "" {
		t.Errorf("Leaf(%#v): %q, %t", was, b, ok)
	}
	if Fits(l...) {
		t.Errorf("Fits(%#v): true", was)
	}
	if !slices.Equal(l, was) {
		t.Errorf("Leaf or Fits turned %#v to %#v", was, l)
	}
}

// chainMay wants that there is this Chain, and that all of it comes back.
func chainMay(t *testing.T, next int, text string) {
	t.Helper()
	want := laidChain(next, len(text), text)
	b, ok := Chain(next, text)
	if !ok || b != want || len(b) != size {
		t.Errorf("Chain(%d, %q): %d bytes, %q, %t, not %q", next, text, len(b), b, ok, want)
	}
	isLink(t, want, next, text)
}

func chainNot(t *testing.T, next int, text string) {
	t.Helper()
	if b, ok := Chain(next, text); ok || b != "" {
		t.Errorf("Chain(%d, %q): %q, %t", next, text, b, ok)
	}
}

func checkSlots(t *testing.T, b string, is bool, want ...Slot) {
	t.Helper()
	if l, ok := Slots(b); ok != is || !slices.Equal(l, want) {
		t.Errorf("Slots(%q): %d, %t, not %d, %t", b, l, ok, want, is)
	}
}

func checkCells(t *testing.T, b string, is bool, want ...Cell) {
	t.Helper()
	if l, ok := Cells(b); ok != is || !slices.Equal(l, want) {
		t.Errorf("Cells(%q): %#v, %t, not %#v, %t", b, l, ok, want, is)
	}
}

func checkLink(t *testing.T, b string, is bool, next int, text string) {
	t.Helper()
	if n, s, ok := Link(b); ok != is || n != next || s != text {
		t.Errorf("Link(%q): %d, %q, %t, not %d, %q, %t", b, n, s, ok, next, text, is)
	}
}

func checkKind(t *testing.T, b string, want byte) {
	t.Helper()
	if kind := Kind(b); kind != want {
		t.Errorf("Kind(%q): %q, not %q", b, kind, want)
	}
}

// isSlots, isCells and isLink want that b is such a page, and of no other kind; isNone that it is of no kind.
func isSlots(t *testing.T, b string, want ...Slot) {
	t.Helper()
	checkSlots(t, b, true, want...)
	checkCells(t, b, false)
	checkLink(t, b, false, 0, "")
	checkKind(t, b, 'I')
}

func isCells(t *testing.T, b string, want ...Cell) {
	t.Helper()
	checkSlots(t, b, false)
	checkCells(t, b, true, want...)
	checkLink(t, b, false, 0, "")
	checkKind(t, b, 'L')
}

func isLink(t *testing.T, b string, next int, text string) {
	t.Helper()
	checkSlots(t, b, false)
	checkCells(t, b, false)
	checkLink(t, b, true, next, text)
	checkKind(t, b, 'C')
}

func isNone(t *testing.T, b string) {
	t.Helper()
	checkSlots(t, b, false)
	checkCells(t, b, false)
	checkLink(t, b, false, 0, "")
	checkKind(t, b, 0)
}

// wrongKeys are none, wherever they stand; some are ones in their last four bytes.
func wrongKeys() []int {
	return []int{-1, -2, -1 << 31, math.MinInt, math.MinInt + 5, -1<<32 + 5, 1 << 31, 1<<31 + 5, 1<<32 - 1, 1 << 32, 1<<32 + 5, 1<<40 + 5, math.MaxInt}
}

// wrongPages are none; some are ones in their last two bytes, or in their last one.
func wrongPages() []int {
	return []int{-1, -2, -199, math.MinInt, math.MinInt + 5, -1<<16 + 5, 0, 1, api.MaxPages, api.MaxPages + 1, 255, 256, 256 + 5, 1<<16 + 5, 1<<32 + 5, math.MaxInt}
}

// risingSlots and risingCells (of no bytes) are so many.
func risingSlots(n int) []Slot {
	l := make([]Slot, n)
	for k := range l {
		l[k] = slot(3*k, 2+k%150)
	}
	return l
}

func risingCells(n int) []Cell {
	l := make([]Cell, n)
	for k := range l {
		l[k] = short(3*k, "")
	}
	return l
}

// Each byte, by hand.
func TestP1501IndexBytes(t *testing.T) {
	b, ok := Index(slot(0, 2), slot(0x01020304, 0x5a), slot(topKey, topPage))
	want := "I\x03" + "\x00\x00\x00\x00\x00\x02" + "\x01\x02\x03\x04\x00\x5a" + "\x7f\xff\xff\xff\x00\xc7" + strings.Repeat("\x00", 108)
	if b != want || !ok || len(b) != size {
		t.Errorf("%d bytes, %q, %t, not %q", len(b), b, ok, want)
	}
	if b, ok = Index(); b != "I"+strings.Repeat("\x00", 127) || !ok {
		t.Errorf("of none: %q, %t", b, ok)
	}
}

func TestP1501IndexMany(t *testing.T) {
	for n := range 22 {
		indexMay(t, risingSlots(n)...)
	}
	for n := 22; n < 300; n++ {
		indexNot(t, risingSlots(n)...)
	}
	for _, n := range []int{256 + 21, 512, 512 + 1, 1 << 16, 1<<16 + 1} {
		indexNot(t, risingSlots(n)...)
	}
}

func TestP1501IndexKeys(t *testing.T) {
	for _, key := range []int{0, 1, 255, 256, 1<<16 - 1, 1 << 16, 1 << 24, 1 << 30, topKey - 1, topKey} {
		indexMay(t, slot(key, 7))
	}
	for _, key := range wrongKeys() {
		indexNot(t, slot(key, 7))
		indexNot(t, slot(3, 7), slot(key, 7))
		indexNot(t, slot(key, 7), slot(9, 7))
		indexNot(t, slot(3, 7), slot(key, 7), slot(9, 7))
	}
}

// pairsOfKeys goes through two keys, one behind the other.
func pairsOfKeys(do func(first, second int)) {
	l := []int{0, 1, 2, 127, 128, 255, 256, 257, 1<<16 - 1, 1 << 16, 1<<24 + 1, 1 << 30, topKey - 1, topKey}
	for _, first := range l {
		for _, second := range l {
			do(first, second)
		}
	}
}

func TestP1501IndexKeysRise(t *testing.T) {
	pairsOfKeys(func(first, second int) {
		if first < second {
			indexMay(t, slot(first, 9), slot(second, 3))
			return
		}
		indexNot(t, slot(first, 9), slot(second, 3))
		indexNot(t, slot(first, 9), slot(second, 10))
	})
	for at := range 20 {
		l := risingSlots(21)
		l[at+1].Key = l[at].Key + 1
		indexMay(t, l...)
		l[at+1].Key = l[at].Key
		indexNot(t, l...)
		l[at+1].Key = l[at].Key - 1
		indexNot(t, l...)
	}
}

func TestP1501IndexPages(t *testing.T) {
	for page := 2; page <= topPage; page++ {
		indexMay(t, slot(5, page))
		// Pages need not rise, nor differ.
		indexMay(t, slot(5, page), slot(6, page), slot(7, 2))
	}
	for _, page := range wrongPages() {
		indexNot(t, slot(5, page))
		indexNot(t, slot(4, 7), slot(5, page))
		indexNot(t, slot(5, page), slot(6, 7))
	}
}

// Each byte, by hand.
func TestP1501LeafBytes(t *testing.T) {
	b, ok := Leaf(short(0, ""), short(0x01020304, "\x00a\xff"), long(0x01020305, 25, 0x5a), long(topKey, 900, topPage))
	want := "L\x04" + "\x00\x00\x00\x00\x00\x00" + "\x01\x02\x03\x04\x00\x03\x00a\xff" + "\x01\x02\x03\x05\x00\x19\x00\x5a" + "\x7f\xff\xff\xff\x03\x84\x00\xc7"
	want += strings.Repeat("\x00", size-len(want))
	if b != want || !ok || len(b) != size {
		t.Errorf("%d bytes, %q, %t, not %q", len(b), b, ok, want)
	}
	if b, ok = Leaf(); b != "L"+strings.Repeat("\x00", 127) || !ok || !Fits() {
		t.Errorf("of none: %q, %t, %t", b, ok, Fits())
	}
}

func TestP1501LeafKeys(t *testing.T) {
	for _, key := range []int{0, 1, 255, 256, 1<<16 - 1, 1 << 16, 1 << 24, 1 << 30, topKey - 1, topKey} {
		leafMay(t, short(key, "abc"))
		leafMay(t, long(key, 25, 7))
	}
	for _, key := range wrongKeys() {
		for _, c := range []Cell{short(key, ""), short(key, "abc"), long(key, 25, 7)} {
			leafNot(t, c)
			leafNot(t, short(3, "ab"), c)
			leafNot(t, c, short(9, "ab"))
			leafNot(t, short(3, "ab"), c, long(9, 900, 7))
		}
	}
}

func TestP1501LeafKeysRise(t *testing.T) {
	pairsOfKeys(func(first, second int) {
		for _, l := range [][]Cell{
			{short(first, ""), short(second, "")},
			{short(first, "ab"), long(second, 25, 7)},
			{long(first, 900, 7), short(second, "c")},
			{long(first, 900, 7), long(second, 30, 8)},
		} {
			if first < second {
				leafMay(t, l...)
			} else {
				leafNot(t, l...)
			}
		}
	})
	for at := range 20 {
		l := risingCells(21)
		l[at+1].Key = l[at].Key + 1
		leafMay(t, l...)
		l[at+1].Key = l[at].Key
		leafNot(t, l...)
		l[at+1].Key = l[at].Key - 1
		leafNot(t, l...)
	}
}

func TestP1501LeafSizes(t *testing.T) {
	for n := range api.Inline + 1 {
		leafMay(t, short(5, xs(n)))
		leafNot(t, long(5, n, 7))
		leafNot(t, Cell{Key: 5, Size: n, Page: 7, Bytes: xs(n)})
		leafNot(t, Cell{Key: 5, Size: n, Bytes: xs(n + 1)})
		if n > 0 {
			leafNot(t, Cell{Key: 5, Size: n, Bytes: xs(n - 1)})
			leafNot(t, Cell{Key: 5, Size: n})
		}
	}
	for n := api.Inline + 1; n <= api.MaxRecord; n++ {
		leafMay(t, long(5, n, 7))
		leafNot(t, long(5, n, 0))
		leafNot(t, Cell{Key: 5, Size: n, Page: 7, Bytes: "x"})
		leafNot(t, Cell{Key: 5, Size: n, Page: 7, Bytes: xs(n)})
		leafNot(t, short(5, xs(n)))
	}
}

func TestP1501LeafWrongSizes(t *testing.T) {
	for _, n := range []int{
		-1, -2, -25, -900, math.MinInt, math.MinInt + 3, -1<<16 + 3, api.MaxRecord + 1, api.MaxRecord + 2, 1 << 10,
		1<<16 - 1, 1 << 16, 1<<16 + 3, 1<<16 + 25, 1<<32 + 3, 1<<32 + 25, math.MaxInt,
	} {
		for _, c := range []Cell{{Size: n}, {Size: n, Page: 7}, {Size: n, Bytes: "abc"}, {Size: n, Page: 7, Bytes: "abc"}} {
			c.Key = 5
			leafNot(t, c)
			leafNot(t, short(4, "ab"), c)
			leafNot(t, c, short(6, "ab"))
		}
	}
	leafNot(t, short(5, xs(api.MaxRecord+1)))
}

func TestP1501LeafPages(t *testing.T) {
	for page := 2; page <= topPage; page++ {
		leafMay(t, long(5, 25, page))
		leafMay(t, long(5, 900, page), long(6, 25, page), long(7, 25, 2))
		leafNot(t, Cell{Key: 5, Page: page})
		leafNot(t, Cell{Key: 5, Size: 24, Bytes: xs(24), Page: page})
	}
	for _, page := range wrongPages() {
		leafNot(t, long(5, 25, page))
		leafNot(t, long(5, 900, page))
		leafNot(t, short(4, "ab"), long(5, 25, page))
		leafNot(t, long(5, 25, page), short(6, "ab"))
		if page != 0 {
			leafNot(t, Cell{Key: 5, Page: page})
			leafNot(t, Cell{Key: 5, Size: 24, Bytes: xs(24), Page: page})
		}
	}
}

func TestP1501LeafMany(t *testing.T) {
	for n := range 22 {
		leafMay(t, risingCells(n)...)
	}
	for n := 22; n < 300; n++ {
		leafNot(t, risingCells(n)...)
	}
	// In a byte these would be as many as there may be.
	for _, n := range []int{256 + 21, 512, 512 + 1, 1 << 16, 1<<16 + 1} {
		leafNot(t, risingCells(n)...)
	}
}

// The cells ahead of the last one leave room for so many of its bytes; a greater one is refused.
func TestP1501LeafFull(t *testing.T) {
	for _, c := range []struct {
		ahead []Cell
		room  int
	}{
		{[]Cell{short(0, xs(24)), short(1, xs(24)), short(2, xs(24)), short(3, xs(24))}, 0},
		{[]Cell{short(0, xs(24)), short(1, xs(24)), short(2, xs(24)), short(3, xs(23))}, 1},
		{[]Cell{short(0, xs(24)), short(1, xs(24)), short(2, xs(24)), short(3, xs(1))}, 23},
		{[]Cell{short(0, xs(24)), short(1, xs(24)), short(2, xs(24)), long(3, 25, 2)}, 22},
		{[]Cell{long(0, 900, 2), long(1, 900, 3), short(2, xs(24)), short(3, xs(24)), long(4, 25, 9)}, 36},
		{risingCells(20), 0},
		{risingCells(19), 6},
		{risingCells(18), 12},
	} {
		for n := range api.Inline + 1 {
			l := append(slices.Clone(c.ahead), short(100, xs(n)))
			if n <= c.room {
				leafMay(t, l...)
			} else {
				leafNot(t, l...)
			}
		}
		// A greater one has two bytes for its page.
		l := append(slices.Clone(c.ahead), long(100, 900, topPage))
		if c.room >= 2 {
			leafMay(t, l...)
		} else {
			leafNot(t, l...)
		}
	}
}

// Fifteen with pages leave room for one more of no bytes, and no further one.
func TestP1501LeafFullOfPages(t *testing.T) {
	var l []Cell
	for k := range 15 {
		l = append(l, long(k, 25+k, 2+k))
		leafMay(t, l...)
	}
	leafNot(t, append(slices.Clone(l), long(15, 40, 17))...)
	leafNot(t, append(slices.Clone(l), short(15, "x"))...)
	l = append(l, short(15, ""))
	leafMay(t, l...)
	leafNot(t, append(l, short(16, ""))...)
}

// Each byte, by hand.
func TestP1501ChainBytes(t *testing.T) {
	for _, c := range []struct {
		next int
		text string
		want string
	}{
		{0, "a", "C\x00\x00\x01a"},
		{2, "\x00", "C\x00\x02\x01\x00"},
		{0x5a, "a\x00\xff", "C\x00\x5a\x03a\x00\xff"},
		{topPage, xs(120), "C\x00\xc7\x78" + xs(120)},
	} {
		b, ok := Chain(c.next, c.text)
		if want := c.want + strings.Repeat("\x00", 128-len(c.want)); b != want || !ok || len(b) != size {
			t.Errorf("Chain(%d, %q): %d bytes, %q, %t, not %q", c.next, c.text, len(b), b, ok, want)
		}
	}
}

func TestP1501ChainMany(t *testing.T) {
	for n := 1; n <= api.Chain; n++ {
		for _, next := range []int{0, 2, topPage} {
			chainMay(t, next, xs(n))
			chainMay(t, next, strings.Repeat("\x00", n))
			chainMay(t, next, strings.Repeat("\xff", n))
		}
	}
	// Of 121 to 124 bytes there would be room, of the later ones a byte does not tell how many.
	for _, n := range []int{0, 121, 122, 123, 124, 125, 128, 255, 256, 257, 256 + 120, 1<<16 + 1} {
		for _, next := range []int{0, 2, topPage} {
			chainNot(t, next, xs(n))
		}
	}
}

func TestP1501ChainNext(t *testing.T) {
	chainMay(t, 0, "ab")
	for next := 2; next <= topPage; next++ {
		chainMay(t, next, "ab")
	}
	for _, next := range wrongPages() {
		if next != 0 {
			chainNot(t, next, "ab")
			chainNot(t, next, xs(120))
		}
	}
}

// pages are some of each kind: none, few and many things, with and without room left.
func pages() []string {
	return []string{
		laidIndex(0), laidIndex(1, slot(0, 2)), laidIndex(3, slot(0, 2), slot(258, 150), slot(topKey, topPage)), laidIndex(21, risingSlots(21)...),
		laidLeaf(0), laidLeaf(1, short(7, "")), laidLeaf(3, short(1, "abc"), long(7, 900, 5), short(8, xs(24))),
		laidLeaf(2, long(256, 25, 2), short(topKey, "\x00\x00")), laidLeaf(21, risingCells(21)...),
		laidLeaf(5, short(1, xs(24)), short(2, xs(24)), short(3, xs(24)), short(4, xs(24)), short(5, "")),
		laidChain(0, 1, "a"), laidChain(2, 3, "\x00b\x00"), laidChain(topPage, 120, xs(120)), laidChain(9, 119, strings.Repeat("\x00", 119)),
	}
}

func TestP1502NoneOfTooFewOrTooMany(t *testing.T) {
	isNone(t, "")
	for _, b := range pages() {
		for n := range size {
			isNone(t, b[:n])
			isNone(t, b[size-n:])
		}
		for _, more := range []string{"\x00", "I", "L", "C", "x", b} {
			isNone(t, b+more)
			isNone(t, more+b)
		}
		// As many bytes as it has to have, but one to the left.
		isNone(t, b[1:]+"\x00")
	}
	for _, n := range []int{1, 2, 3, 4, 5, size - 1, size + 1, 2 * size, 1 << 16} {
		for _, c := range []string{"\x00", "I", "L", "C", "\xff"} {
			isNone(t, strings.Repeat(c, n))
		}
	}
}

func TestP1502NoneOfOtherKinds(t *testing.T) {
	for c := range 256 {
		isNone(t, strings.Repeat(string([]byte{byte(c)}), size))
	}
	for _, b := range pages() {
		for _, c := range []string{"\x00", "\x01", "i", "l", "c", "A", "B", "D", "H", "J", "K", "M", "\xc9", "\xcc", "\xc3", "\xff"} {
			isNone(t, c+b[1:])
		}
	}
}

func TestP1502NoneBehindTheLast(t *testing.T) {
	for _, c := range []struct {
		b    string
		used int
	}{
		{laidIndex(0), 2},
		{laidIndex(1, slot(1, 2)), 8},
		{laidIndex(20, risingSlots(20)...), 122},
		{laidLeaf(0), 2},
		{laidLeaf(1, short(1, "")), 8},
		{laidLeaf(1, short(1, xs(24))), 32},
		{laidLeaf(1, long(1, 900, 7)), 10},
		{laidLeaf(20, risingCells(20)...), 122},
		{laidChain(0, 1, "a"), 5},
		{laidChain(7, 119, xs(119)), 123},
		{laidChain(7, 120, xs(120)), 124},
	} {
		for at := c.used; at < size; at++ {
			for _, x := range []byte{1, 'x', 0x80, 0xff} {
				isNone(t, turned(c.b, at, x))
			}
		}
	}
}

// turned is b with another byte at a place.
func turned(b string, at int, x byte) string { return b[:at] + string([]byte{x}) + b[at+1:] }

func TestP1502SlotsOfNone(t *testing.T) {
	for _, key := range []int{-1, -1 << 31, 1 << 31, 1<<31 + 1, 1<<32 - 1} {
		isNone(t, laidIndex(1, slot(key, 2)))
		isNone(t, laidIndex(2, slot(1, 2), slot(key, 2)))
	}
	for _, page := range []int{0, 1, api.MaxPages, 255, 256, 257, 258, 1<<16 - 1} {
		isNone(t, laidIndex(1, slot(1, page)))
		isNone(t, laidIndex(2, slot(1, 2), slot(2, page)))
	}
	// A count that says more than there are: there the keys do not rise, or pages are none, or there is no room.
	for n := range 22 {
		for count := range 256 {
			if count != n {
				isNone(t, laidIndex(count, risingSlots(n)...))
			}
		}
	}
	pairsOfKeys(func(first, second int) {
		if first >= second {
			isNone(t, laidIndex(2, slot(first, 2), slot(second, 3)))
			isNone(t, laidIndex(3, slot(first, 2), slot(second, 3), slot(topKey, 4)))
		}
	})
}

func TestP1502CellsOfNone(t *testing.T) {
	for _, key := range []int{-1, -1 << 31, 1 << 31, 1<<31 + 1, 1<<32 - 1} {
		isNone(t, laidLeaf(1, short(key, "ab")))
		isNone(t, laidLeaf(2, short(1, ""), long(key, 25, 2)))
	}
	for _, page := range []int{0, 1, api.MaxPages, 255, 256, 257, 258, 1<<16 - 1} {
		isNone(t, laidLeaf(1, long(1, 25, page)))
		isNone(t, laidLeaf(2, short(1, ""), long(2, 900, page)))
	}
	for _, n := range []int{901, 902, 1024, 1 << 15, 1<<16 - 1} {
		isNone(t, laidLeaf(1, long(1, n, 2)))
		isNone(t, laidLeaf(2, short(1, ""), long(2, n, 2)))
	}
	for n := range 22 {
		for count := range 256 {
			// The first of these cells is nothing but zeros: of it and of none just the count tells how many they are.
			if max(count, 1) != max(n, 1) {
				isNone(t, laidLeaf(count, risingCells(n)...))
			}
		}
	}
	pairsOfKeys(func(first, second int) {
		if first >= second {
			isNone(t, laidLeaf(2, short(first, "ab"), long(second, 25, 3)))
			isNone(t, laidLeaf(3, short(first, ""), short(second, ""), short(topKey, "")))
		}
	})
}

// A leaf whose last cell goes beyond the end of the page by one byte, or by more.
func TestP1502CellsOfNoRoom(t *testing.T) {
	full := "L\x05"
	for k := range 4 {
		full += "\x00\x00\x00" + string([]byte{byte(k)}) + "\x00\x18" + xs(24)
	}
	last := "\x00\x00\x00\x09\x00"
	isCells(t, full+last+"\x00", short(0, xs(24)), short(1, xs(24)), short(2, xs(24)), short(3, xs(24)), short(9, ""))
	for n := 1; n < 256; n++ {
		isNone(t, full+last+string([]byte{byte(n)}))
	}
	many := "L\x16" + laidLeaf(21, risingCells(21)...)[2:]
	isNone(t, many)
	isNone(t, "L\xff"+strings.Repeat("\xff", 126))
}

func TestP1502LinkOfNone(t *testing.T) {
	for _, next := range []int{1, api.MaxPages, 255, 256, 257, 258, 1<<15 + 2, 1<<16 - 1} {
		isNone(t, laidChain(next, 2, "ab"))
	}
	for _, n := range []int{121, 122, 123, 124} {
		isNone(t, laidChain(0, n, xs(n)))
		isNone(t, laidChain(2, n, xs(n)))
	}
	for count := range 256 {
		switch {
		case count < 3 || count > 120:
			isNone(t, laidChain(2, count, "abc"))
			isNone(t, laidChain(2, count, xs(124)))
		default:
			// The zeros behind are bytes as others are.
			isLink(t, laidChain(2, count, "abc"), 2, filledUp("abc")[:count])
		}
	}
	isNone(t, laidChain(0, 0, ""))
	isNone(t, laidChain(2, 0, ""))
}

// readSlots, readCells and readLink take bytes apart as the chapter says, by their places alone.
func readSlots(b string) ([]Slot, bool) {
	if len(b) != size || b[0] != 'I' || b[1] > 21 {
		return nil, false
	}
	var l []Slot
	at, last := 2, -1
	for range int(b[1]) {
		s := slot(int(binary.BigEndian.Uint32([]byte(b[at:at+4]))), int(binary.BigEndian.Uint16([]byte(b[at+4:at+6]))))
		if s.Key <= last || s.Key > topKey || s.Page < 2 || s.Page > topPage {
			return nil, false
		}
		l, last, at = append(l, s), s.Key, at+6
	}
	return l, strings.Trim(b[at:], "\x00") == ""
}

func readCells(b string) ([]Cell, bool) {
	if len(b) != size || b[0] != 'L' {
		return nil, false
	}
	var l []Cell
	at, last := 2, -1
	for range int(b[1]) {
		if at+6 > size {
			return nil, false
		}
		c := Cell{Key: int(binary.BigEndian.Uint32([]byte(b[at : at+4]))), Size: int(binary.BigEndian.Uint16([]byte(b[at+4 : at+6])))}
		at += 6
		if c.Key <= last || c.Key > topKey || c.Size > 900 {
			return nil, false
		}
		used := c.Size
		if c.Size > 24 {
			used = 2
		}
		if at+used > size {
			return nil, false
		}
		if c.Size > 24 {
			c.Page = int(binary.BigEndian.Uint16([]byte(b[at : at+2])))
			if c.Page < 2 || c.Page > topPage {
				return nil, false
			}
		} else {
			c.Bytes = b[at : at+used]
		}
		l, last, at = append(l, c), c.Key, at+used
	}
	return l, strings.Trim(b[at:], "\x00") == ""
}

func readLink(b string) (int, string, bool) {
	if len(b) != size || b[0] != 'C' || b[3] < 1 || b[3] > 120 {
		return 0, "", false
	}
	next, end := int(binary.BigEndian.Uint16([]byte(b[1:3]))), 4+int(b[3])
	if next == 1 || next > topPage || strings.Trim(b[end:], "\x00") != "" {
		return 0, "", false
	}
	return next, b[4:end], true
}

// checkRead holds all calls against what the chapter's places say of these bytes.
func checkRead(t *testing.T, b string) {
	t.Helper()
	if l, ok := readSlots(b); ok {
		isSlots(t, b, l...)
	} else if l, ok := readCells(b); ok {
		isCells(t, b, l...)
	} else if next, text, ok := readLink(b); ok {
		isLink(t, b, next, text)
	} else {
		isNone(t, b)
	}
}

// stopIfFailed ends a long test: what follows would tell the same thousands of times.
func stopIfFailed(t *testing.T) {
	t.Helper()
	if t.Failed() {
		t.FailNow()
	}
}

func TestP1502OneByteTurned(t *testing.T) {
	for _, b := range pages() {
		for at := range size {
			for x := range 256 {
				checkRead(t, turned(b, at, byte(x)))
			}
			stopIfFailed(t)
		}
	}
}

// The numbers at the front, two at once, among them those that say how many there are.
func TestP1502TwoBytesTurned(t *testing.T) {
	some := []byte{0, 1, 2, 3, 5, 20, 21, 22, 23, 24, 25, 119, 120, 121, 124, 125, 127, 128, 199, 200, 255}
	for _, b := range pages() {
		for first := 1; first < 12; first++ {
			for second := first + 1; second < 12; second++ {
				for _, x := range some {
					for _, y := range some {
						checkRead(t, turned(turned(b, first, x), second, y))
					}
				}
				stopIfFailed(t)
			}
		}
	}
}

// A page of which the first bytes came over another one.
func TestP1502Torn(t *testing.T) {
	for _, under := range append(pages(), strings.Repeat("\x00", size)) {
		for _, over := range pages() {
			for cut := range size + 1 {
				checkRead(t, over[:cut]+under[cut:])
			}
			stopIfFailed(t)
		}
	}
}

func TestP1502Kind(t *testing.T) {
	index, _ := Index(slot(1, 2))
	leaf, _ := Leaf(short(1, "a"))
	chain, _ := Chain(2, "a")
	checkKind(t, index, 'I')
	checkKind(t, leaf, 'L')
	checkKind(t, chain, 'C')
	for _, b := range []string{"", "I", "L", "C", "ILC", filledUp(""), filledUp("C"), filledUp("X"), filledUp("I\x01"), filledUp("L\x02"), index[1:], leaf + "x", chain + "\x00"} {
		checkKind(t, b, 0)
	}
}

func TestP1502AnswersAreNew(t *testing.T) {
	index := laidIndex(2, slot(1, 2), slot(2, 3))
	slots, _ := Slots(index)
	slots[0], slots = slot(9, 9), append(slots[:1], slot(8, 8))
	checkSlots(t, index, true, slot(1, 2), slot(2, 3))

	leaf := laidLeaf(2, short(1, "abc"), short(2, "def"))
	cells, _ := Cells(leaf)
	apart(t, leaf, cells[0].Bytes)
	apart(t, leaf, cells[1].Bytes)
	cells[0], cells = short(9, "x"), append(cells[:1], short(8, "y"))
	checkCells(t, leaf, true, short(1, "abc"), short(2, "def"))

	chain := laidChain(2, 3, "abc")
	_, text, _ := Link(chain)
	apart(t, chain, text)
}

// apart wants that an answer is no piece of what was handed in.
func apart(t *testing.T, b, answer string) {
	t.Helper()
	from, at := uintptr(unsafe.Pointer(unsafe.StringData(b))), uintptr(unsafe.Pointer(unsafe.StringData(answer)))
	if from <= at && at < from+uintptr(len(b)) {
		t.Errorf("%q is a piece of %q", answer, b)
	}
}
