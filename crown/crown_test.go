package crown

import (
	"encoding/binary"
	"math"
	"strings"
	"testing"

	"maquette/api"
)

const size = api.PageSize

// laid is a page of these numbers as the chapter lays them, whether there may be such a crown or not.
func laid(first uint64, root, pages uint16, last uint64) string {
	b := binary.BigEndian.AppendUint64(nil, first)
	b = binary.BigEndian.AppendUint16(b, root)
	b = binary.BigEndian.AppendUint16(b, pages)
	b = append(b, make([]byte, size-8-2-2-8)...)
	return string(binary.BigEndian.AppendUint64(b, last))
}

func laidOf(c Crown) string {
	return laid(uint64(c.Gen), uint16(c.Root), uint16(c.Pages), uint64(c.Gen))
}

// put wants that there is such a crown.
func put(t *testing.T, gen, root, pages int) string {
	t.Helper()
	b, ok := Put(Crown{gen, root, pages})
	if !ok {
		t.Fatalf("Put(%d, %d, %d): false", gen, root, pages)
	}
	return b
}

func checkPut(t *testing.T, c Crown, may bool) {
	t.Helper()
	want := ""
	if may {
		want = laidOf(c)
	}
	if b, ok := Put(c); b != want || ok != may {
		t.Errorf("Put(%d): %q, %t, not %q, %t", c, b, ok, want, may)
	}
}

// checkGet wants just this of a Get; of one that is none want is zero.
func checkGet(t *testing.T, b string, want Crown, is bool) {
	t.Helper()
	if c, ok := Get(b); c != want || ok != is {
		t.Errorf("Get(%q): %d, %t, not %d, %t", b, c, ok, want, is)
	}
}

func checkNone(t *testing.T, b string) {
	t.Helper()
	checkGet(t, b, Crown{}, false)
}

func checkPick(t *testing.T, a, b string, want Crown, place int, is bool) {
	t.Helper()
	if c, at, ok := Pick(a, b); c != want || at != place || ok != is {
		t.Errorf("Pick(%q, %q): %d, %d, %t, not %d, %d, %t", a, b, c, at, ok, want, place, is)
	}
}

// turned is b with another byte at a place.
func turned(b string, at int, c byte) string { return b[:at] + string([]byte{c}) + b[at+1:] }

// gens are numbers of crowns: the ends, both sides of each byte's end, and one of which all bytes differ.
func gens() []int {
	l := []int{1, 2, 3, 0x0102030405060708, 0x08070605040302ff, 1<<62 - 1, 1 << 62}
	for shift := 8; shift < 62; shift += 8 {
		l = append(l, 1<<shift-1, 1<<shift, 1<<shift+1)
	}
	return l
}

func TestP1401PutGen(t *testing.T) {
	for _, gen := range gens() {
		checkPut(t, Crown{gen, 2, api.MinPages}, true)
		checkPut(t, Crown{gen, 77, api.MaxPages}, true)
	}
	for _, gen := range []int{0, -1, -2, 1<<62 + 1, 1<<62 + 2, 1<<62 + 1<<32, math.MaxInt, math.MinInt, math.MinInt + 1, -1 << 62} {
		checkPut(t, Crown{gen, 2, api.MinPages}, false)
		checkPut(t, Crown{gen, 77, api.MaxPages}, false)
	}
}

func TestP1401PutPages(t *testing.T) {
	for pages := api.MinPages; pages <= api.MaxPages; pages++ {
		checkPut(t, Crown{1, 2, pages}, true)
		checkPut(t, Crown{2, api.MinPages - 1, pages}, true)
	}
	for _, pages := range []int{
		api.MinPages - 1, api.MinPages - 2, 3, 2, 1, 0, -1, -api.MinPages, api.MaxPages + 1, 255, 256, 256 + api.MinPages,
		1<<16 + api.MinPages, 1<<32 + api.MinPages, math.MaxInt, math.MinInt, math.MinInt + api.MinPages,
	} {
		checkPut(t, Crown{1, 2, pages}, false)
		checkPut(t, Crown{2, pages - 1, pages}, false)
	}
}

func TestP1401PutRoot(t *testing.T) {
	for _, pages := range []int{api.MinPages, api.MinPages + 1, 100, api.MaxPages} {
		for root := -3; root < api.MaxPages+60; root++ {
			checkPut(t, Crown{3, root, pages}, 2 <= root && root <= pages-1)
		}
		for _, root := range []int{1<<16 + 2, 1<<32 + 2, -1<<16 + 2, math.MaxInt, math.MinInt, math.MinInt + 2} {
			checkPut(t, Crown{3, root, pages}, false)
		}
	}
}

// Each byte, by hand.
func TestP1401PutBytes(t *testing.T) {
	b := put(t, 0x0102030405060708, 0x5a, 0xc3)
	gen := "\x01\x02\x03\x04\x05\x06\x07\x08"
	if want := gen + "\x00\x5a\x00\xc3" + strings.Repeat("\x00", 108) + gen; b != want || len(b) != size {
		t.Errorf("%d bytes, %q, not %q", len(b), b, want)
	}
	b = put(t, 1<<62, 2, api.MinPages)
	gen = "\x40" + strings.Repeat("\x00", 7)
	if want := gen + "\x00\x02\x00\x08" + strings.Repeat("\x00", 108) + gen; b != want {
		t.Errorf("%q, not %q", b, want)
	}
}

func TestP1401GetOfPut(t *testing.T) {
	for _, gen := range gens() {
		for _, pages := range []int{api.MinPages, 9, 127, 128, api.MaxPages} {
			for _, root := range []int{2, 3, pages / 2, pages - 2, pages - 1} {
				checkGet(t, put(t, gen, root, pages), Crown{gen, root, pages}, true)
			}
		}
	}
}

func TestP1401GetOfTooFewOrTooMany(t *testing.T) {
	b := put(t, 1<<40+2, 190, api.MaxPages)
	checkNone(t, "")
	for n := range size {
		checkNone(t, b[:n])
		checkNone(t, b[size-n:])
		checkNone(t, strings.Repeat("\x00", n))
	}
	for _, more := range []string{"\x00", "\x02", "x", b[:8], b} {
		checkNone(t, b+more)
		checkNone(t, more+b)
	}
	// Both Gens stand at the ends, but there are too few zeros between them, or too many.
	checkNone(t, b[:20]+b[21:])
	checkNone(t, b[:20]+"\x00"+b[20:])
	checkNone(t, b[:20])
	checkNone(t, b[:12]+b[size-8:])
}

func TestP1401GetOfOther(t *testing.T) {
	for _, c := range []string{"\x00", "\x01", "\x02", "x", "\x40", "\x7f", "\x80", "\xff"} {
		checkNone(t, strings.Repeat(c, size))
	}
	// What Put tells false of, laid as it would be.
	for _, gen := range []uint64{0, 1<<62 + 1, 1<<63 - 1, 1 << 63, 1<<63 + 1, math.MaxUint64} {
		checkNone(t, laid(gen, 2, api.MinPages, gen))
	}
	for _, c := range []struct{ root, pages uint16 }{
		{2, api.MinPages - 1}, {2, 3}, {2, 0}, {2, api.MaxPages + 1}, {2, 256 + api.MinPages}, {2, math.MaxUint16},
		{0, api.MinPages}, {1, api.MinPages}, {api.MinPages, api.MinPages}, {api.MinPages + 1, api.MinPages},
		{0, api.MaxPages}, {1, api.MaxPages}, {api.MaxPages, api.MaxPages}, {256 + 2, api.MinPages}, {256 + 2, api.MaxPages},
		{math.MaxUint16, api.MaxPages}, {0, 0}, {1, 1}, {math.MaxUint16, math.MaxUint16},
	} {
		checkNone(t, laid(1, c.root, c.pages, 1))
	}
	checkGet(t, laid(1, 2, api.MinPages, 1), Crown{1, 2, api.MinPages}, true)
}

// A byte turned makes none, but for the last ones of Root and of Pages, which may say another crown: then it is that one.
func TestP1401GetOfOneByteTurned(t *testing.T) {
	for _, was := range []Crown{{1, 2, api.MinPages}, {0x0102030405060708, 190, api.MaxPages}, {1 << 62, 7, 100}} {
		b := put(t, was.Gen, was.Root, was.Pages)
		for at := range size {
			for c := range 256 {
				now, is := Crown{}, true
				switch {
				case byte(c) == b[at]:
					now = was
				case at == 9 && 2 <= c && c < was.Pages:
					now = Crown{was.Gen, c, was.Pages}
				case at == 11 && max(was.Root+1, api.MinPages) <= c && c <= api.MaxPages:
					now = Crown{was.Gen, was.Root, c}
				default:
					is = false
				}
				checkGet(t, turned(b, at, byte(c)), now, is)
			}
		}
	}
}

func TestP1401GetOfTwoGens(t *testing.T) {
	for _, first := range gens() {
		for _, last := range gens() {
			b := laid(uint64(first), 3, 9, uint64(last))
			if first == last {
				checkGet(t, b, Crown{first, 3, 9}, true)
			} else {
				checkNone(t, b)
			}
		}
		checkNone(t, laid(uint64(first), 3, 9, 0))
		checkNone(t, laid(0, 3, 9, uint64(first)))
	}
}

func TestP1401PickOfTwo(t *testing.T) {
	for _, gen := range gens() {
		for _, other := range gens() {
			c, d := Crown{gen, 2, api.MinPages}, Crown{other, 199, api.MaxPages}
			a, b := laidOf(c), laidOf(d)
			switch {
			case gen > other:
				checkPick(t, a, b, c, 0, true)
				checkPick(t, b, a, c, 1, true)
			case gen < other:
				checkPick(t, a, b, d, 1, true)
				checkPick(t, b, a, d, 0, true)
			default:
				// Neither Root nor Pages counts.
				checkPick(t, a, b, c, 0, true)
				checkPick(t, b, a, d, 0, true)
			}
			checkPick(t, a, a, c, 0, true)
		}
	}
}

// nones are bytes that are no Put, some of them all but one of a great Gen.
func nones() []string {
	great := laid(1<<62, 2, api.MinPages, 1<<62)
	return []string{
		"", "x", strings.Repeat("\x00", size), strings.Repeat("\xff", size), great[1:], great + "\x00", turned(great, 60, 1),
		laid(1<<62, 2, api.MinPages, 1<<61), laid(1<<61, 2, api.MinPages, 1<<62), laid(1<<62+1, 2, api.MinPages, 1<<62+1),
		laid(1<<62, 1, api.MinPages, 1<<62), laid(1<<62, 2, api.MinPages-1, 1<<62), laid(math.MaxUint64, 2, api.MinPages, math.MaxUint64),
	}
}

func TestP1401PickOfOne(t *testing.T) {
	for _, gen := range gens() {
		c := Crown{gen, 5, 11}
		for _, none := range nones() {
			checkPick(t, laidOf(c), none, c, 0, true)
			checkPick(t, none, laidOf(c), c, 1, true)
		}
	}
}

func TestP1401PickOfNone(t *testing.T) {
	for _, a := range nones() {
		for _, b := range nones() {
			checkPick(t, a, b, Crown{}, 0, false)
		}
	}
}

func checkSlot(t *testing.T, gen, want int) {
	t.Helper()
	if at := Slot(gen); at != want {
		t.Errorf("Slot(%d): %d, not %d", gen, at, want)
	}
}

func TestP1401Slot(t *testing.T) {
	for half := -300; half <= 300; half++ {
		checkSlot(t, 2*half, 0)
		checkSlot(t, 2*half+1, 1)
	}
	for _, even := range []int{0, 1 << 32, -1 << 32, 1 << 62, -1 << 62, math.MaxInt - 1, math.MinInt, math.MinInt + 2} {
		checkSlot(t, even, 0)
		checkSlot(t, even+1, 1)
	}
}

// checkTorn holds each tearing of a Put over another against the two of them.
func checkTorn(t *testing.T, old, now Crown) {
	t.Helper()
	under, over := put(t, old.Gen, old.Root, old.Pages), put(t, now.Gen, now.Root, now.Pages)
	for cut := range size + 1 {
		b := over[:cut] + under[cut:]
		switch b {
		case over:
			checkGet(t, b, now, true)
		case under:
			checkGet(t, b, old, true)
		default:
			checkNone(t, b)
		}
	}
	// Of none of its bytes it is the one, of all of them the other.
	checkGet(t, over[:0]+under, old, true)
	checkGet(t, over+under[size:], now, true)
}

func TestP1402Torn(t *testing.T) {
	for _, from := range gens() {
		for _, to := range gens() {
			if from == to {
				continue
			}
			// Of the same Root and Pages the Gens alone tell them apart.
			checkTorn(t, Crown{from, 2, api.MinPages}, Crown{to, 2, api.MinPages})
			checkTorn(t, Crown{from, 2, api.MinPages}, Crown{to, 199, api.MaxPages})
			checkTorn(t, Crown{from, 150, api.MaxPages}, Crown{to, 3, api.MinPages})
		}
	}
}

// The next one is torn over the last but one: Pick tells the last one until all that differs has come, in whichever page it is.
func TestP1402PickBesideTorn(t *testing.T) {
	for _, gen := range []int{3, 4, 255, 256, 257, 65536, 1<<32 + 1, 1<<40 + 1, 1<<62 - 1, 1 << 62} {
		ago, last, next := Crown{gen - 2, 2, 9}, Crown{gen - 1, 3, 9}, Crown{gen, 4, 9}
		under, over := laidOf(ago), laidOf(next)
		for cut := range size + 1 {
			b := over[:cut] + under[cut:]
			want := last
			if b == over {
				want = next
			}
			pages := [2]string{}
			pages[Slot(gen)], pages[Slot(gen-1)] = b, laidOf(last)
			checkPick(t, pages[0], pages[1], want, Slot(want.Gen), true)
		}
	}
}

// Over what is none, such as zeros, it is none until all of it has come.
func TestP1402TornOverNone(t *testing.T) {
	zeros := strings.Repeat("\x00", size)
	for _, gen := range gens() {
		c := Crown{gen, 4, 9}
		over := laidOf(c)
		for cut := range size + 1 {
			if b := over[:cut] + zeros[cut:]; b == over {
				checkGet(t, b, c, true)
			} else {
				checkNone(t, b)
			}
		}
	}
}
