package vault

import (
	"math"
	"math/rand/v2"
	"slices"
	"strings"
	"testing"
	"unsafe"

	"maquette/api"
	"maquette/crown"
	"maquette/platter"
	"maquette/sheet"
	"maquette/shelf"
)

const (
	topKey = 1<<31 - 1
	topGen = 1 << 62
)

var blank = strings.Repeat("\x00", api.PageSize)

func rec(key int, b string) shelf.Record { return shelf.Record{Key: key, Bytes: b} }

func at(page int, b string) shelf.Write { return shelf.Write{Page: page, Bytes: b} }

func xs(n int) string { return strings.Repeat("x", n) }

// varied is so many bytes, of which no two pieces are alike, nor those of two seeds.
func varied(seed, n int) string {
	b := make([]byte, n)
	for i := range b {
		b[i] = byte(i/api.Chain*16 + seed + i%7)
	}
	return string(b)
}

// seq is the numbers of from up to ahead of to.
func seq(from, to int) []int {
	var l []int
	for n := from; n < to; n++ {
		l = append(l, n)
	}
	return l
}

// alike is so many records of the same bytes, with rising keys.
func alike(count int, b string) []shelf.Record {
	var l []shelf.Record
	for key := range count {
		l = append(l, rec(key, b))
	}
	return l
}

// laid is a page of which the test knows that there may be such a one.
func laid(b string, ok bool) string {
	if !ok {
		panic("there is no such page")
	}
	return b
}

func head(gen, root, pages int) string {
	return laid(crown.Put(crown.Crown{Gen: gen, Root: root, Pages: pages}))
}

// torn is a page of which the first n bytes are those of b, the others those of under.
func torn(n int, b, under string) string { return b[:n] + under[n:] }

// put is a platter's pages with these written over them.
func put(pages []string, l ...shelf.Write) []string {
	pages = slices.Clone(pages)
	for _, w := range l {
		pages[w.Page] = w.Bytes
	}
	return pages
}

func blanks(n int) []string { return slices.Repeat([]string{blank}, n) }

// disk is a platter of these pages, settled.
func disk(t *testing.T, pages []string) *platter.Platter {
	t.Helper()
	p := platter.New(len(pages))
	for n, b := range pages {
		store(t, p, n, b)
	}
	if err := p.Settle(); err != api.OK {
		t.Fatalf("Settle: %d", err)
	}
	return p
}

func store(t *testing.T, p *platter.Platter, n int, b string) {
	t.Helper()
	if err := p.Store(n, b); err != api.OK {
		t.Fatalf("Store(%d, %q): %d", n, b, err)
	}
}

// dump is all pages of a platter that runs.
func dump(t *testing.T, p *platter.Platter) []string {
	t.Helper()
	var pages []string
	for n := range p.Pages() {
		b, err := p.Load(n)
		if err != api.OK {
			t.Fatalf("Load(%d): %d", n, err)
		}
		pages = append(pages, b)
	}
	return pages
}

// formatted is what Format tells where the test knows that there is room.
func formatted(t *testing.T, pages int, l ...shelf.Record) *platter.Platter {
	t.Helper()
	p, err := Format(pages, l...)
	if err != api.OK {
		t.Fatalf("Format(%d, %#v): %d", pages, l, err)
	}
	return p
}

// opened is what Open tells where the test knows that there is a vault.
func opened(t *testing.T, p *platter.Platter) *Vault {
	t.Helper()
	v, err := Open(p)
	if err != api.OK {
		t.Fatalf("Open: %d", err)
	}
	return v
}

func save(t *testing.T, v *Vault, l ...shelf.Record) {
	t.Helper()
	if err := v.Save(l...); err != api.OK {
		t.Fatalf("Save(%#v): %d", l, err)
	}
}

// there is what lies on pages, as the chapter says, word for word.
type there struct {
	gen     int
	records []shelf.Record
	tree    []shelf.Write
	live    []int
	free    []int
}

// plain looks for it on pages of which the test knows that it is there.
func plain(t *testing.T, pages []string) there {
	t.Helper()
	c, _, ok := crown.Pick(pages[0], pages[1])
	load := func(n int) (string, api.Errno) { return pages[n], api.OK }
	records, tree, err := shelf.Read(c.Root, load)
	if !ok || c.Pages != len(pages) || err != api.OK {
		t.Fatalf("there is nothing on %q: %d", pages, err)
	}
	is := there{gen: c.Gen, records: records, tree: tree}
	for n := 2; n < len(pages); n++ {
		if slices.ContainsFunc(tree, func(w shelf.Write) bool { return w.Page == n }) {
			is.live = append(is.live, n)
		} else {
			is.free = append(is.free, n)
		}
	}
	return is
}

// stores is what a Save is to store upon pages: the tree, and then the crown.
func stores(t *testing.T, pages []string, l []shelf.Record) ([]shelf.Write, shelf.Write, api.Errno) {
	t.Helper()
	is := plain(t, pages)
	writes, root, err := shelf.Plan(l, is.tree, is.free)
	if err != api.OK {
		return nil, shelf.Write{}, err
	}
	return writes, at((is.gen+1)%2, head(is.gen+1, root, len(pages))), api.OK
}

// checkTells wants that a Vault tells just what is there.
func checkTells(t *testing.T, v *Vault, is there) {
	t.Helper()
	// A second time too: nothing turns by being told.
	for range 2 {
		if l := v.Records(); !slices.Equal(l, is.records) {
			t.Errorf("Records: %#v, not %#v", l, is.records)
		}
		if l := v.Live(); !slices.Equal(l, is.live) {
			t.Errorf("Live: %d, not %d", l, is.live)
		}
		if l := v.Free(); !slices.Equal(l, is.free) {
			t.Errorf("Free: %d, not %d", l, is.free)
		}
		if n := v.Gen(); n != is.gen {
			t.Errorf("Gen: %d, not %d", n, is.gen)
		}
	}
}

// checkPages wants that a platter runs, has just these pages, and so many afloat.
func checkPages(t *testing.T, p *platter.Platter, want []string, afloat int) {
	t.Helper()
	if p.Halted() {
		t.Fatalf("it is halted")
	}
	pages := dump(t, p)
	if len(pages) != len(want) {
		t.Fatalf("%d pages, not %d", len(pages), len(want))
	}
	for n, b := range pages {
		if b != want[n] {
			t.Errorf("page %d: %q, not %q", n, b, want[n])
		}
	}
	if n := p.Afloat(); n != afloat {
		t.Errorf("%d are afloat, not %d", n, afloat)
	}
}

// checkOpen wants that Open tells what lies on the platter, and leaves that as it was.
func checkOpen(t *testing.T, p *platter.Platter) *Vault {
	t.Helper()
	pages, afloat := dump(t, p), p.Afloat()
	// No Store is to be stored.
	p.Halt(0)
	v := opened(t, p)
	p.Halt(-1)
	checkPages(t, p, pages, afloat)
	checkTells(t, v, plain(t, pages))
	return v
}

// notOpened wants that Open tells an error, and nothing beside it.
func notOpened(t *testing.T, p *platter.Platter, want api.Errno) {
	t.Helper()
	afloat, halted := p.Afloat(), p.Halted()
	if v, err := Open(p); v != nil || err != want {
		t.Errorf("Open: %#v, %d, not %d", v, err, want)
	}
	if p.Afloat() != afloat || p.Halted() != halted {
		t.Errorf("Open turned a platter with %d afloat, %t, to one with %d, %t", afloat, halted, p.Afloat(), p.Halted())
	}
}

// checkSave wants that a Save goes as the chapter says, or is refused as it says, and turns nothing then.
func checkSave(t *testing.T, p *platter.Platter, v *Vault, want api.Errno, l ...shelf.Record) {
	t.Helper()
	pages, afloat, was := dump(t, p), p.Afloat(), slices.Clone(l)
	writes, crowned, err := stores(t, pages, l)
	if err != want {
		t.Errorf("Plan(%#v): %d, not %d", l, err, want)
	}
	if err := v.Save(l...); err != want {
		t.Errorf("Save(%#v): %d, not %d", l, err, want)
	}
	if !slices.Equal(l, was) {
		t.Errorf("Save turned %#v to %#v", was, l)
	}
	if want == api.OK {
		pages, afloat = put(put(pages, writes...), crowned), 0
	}
	checkPages(t, p, pages, afloat)
	is := plain(t, pages)
	if want == api.OK && !slices.Equal(is.records, l) {
		t.Errorf("Save(%#v) saved %#v", l, is.records)
	}
	checkTells(t, v, is)
	checkTells(t, opened(t, p), is)
}

// notFormatted wants that Format tells an error, and nothing beside it.
func notFormatted(t *testing.T, want api.Errno, pages int, l ...shelf.Record) {
	t.Helper()
	was := slices.Clone(l)
	if p, err := Format(pages, l...); p != nil || err != want {
		t.Errorf("Format(%d, %#v): %#v, %d, not %d", pages, l, p, err, want)
	}
	if !slices.Equal(l, was) {
		t.Errorf("Format turned %#v to %#v", was, l)
	}
}

// checkFormat wants just the platter that the chapter says.
func checkFormat(t *testing.T, pages int, l ...shelf.Record) {
	t.Helper()
	was := slices.Clone(l)
	p := formatted(t, pages, l...)
	if !slices.Equal(l, was) {
		t.Errorf("Format turned %#v to %#v", was, l)
	}
	writes, root, err := shelf.Plan(l, nil, seq(2, pages))
	if err != api.OK {
		t.Fatalf("Plan(%#v): %d", l, err)
	}
	want := put(put(blanks(pages), writes...), at(1, head(1, root, pages)))
	checkPages(t, p, want, 0)
	// All of it lasts.
	if n := p.Fail(0, 0, 0); n != 0 {
		t.Errorf("Fail: %d", n)
	}
	checkPages(t, p, want, 0)
	checkTells(t, checkOpen(t, p), there{gen: 1, records: l, live: seq(2, 2+len(writes)), free: seq(2+len(writes), pages)})
	// It is not to halt.
	for range 300 {
		store(t, p, 0, blank)
	}
}

// lists are records of many kinds; all of them have pages in common with others.
func lists() [][]shelf.Record {
	return [][]shelf.Record{
		nil,
		{rec(0, "")},
		{rec(1, "a"), rec(7, "b"), rec(topKey, xs(24))},
		{rec(1, varied(1, 25)), rec(2, varied(1, 25)), rec(3, varied(2, 25))},
		{rec(1, varied(1, 130)), rec(7, "b")},
		{rec(1, varied(1, 130)), rec(2, varied(3, 300)), rec(9, "")},
		{rec(1, varied(1, 130)), rec(2, varied(3, 299)), rec(9, "")},
		{rec(0, varied(1, 900)), rec(5, varied(2, 900)), rec(topKey, varied(3, 120))},
		{rec(0, xs(900)), rec(5, xs(899))},
		alike(30, "abc"),
		alike(30, xs(25)),
	}
}

func TestP1701Format(t *testing.T) {
	for _, pages := range []int{api.MinPages, api.MinPages + 1, 9, 100, api.MaxPages - 1, api.MaxPages} {
		for _, l := range lists() {
			if shelf.Need(l...) <= pages-2 {
				checkFormat(t, pages, l...)
			} else {
				notFormatted(t, api.ErrFull, pages, l...)
			}
		}
	}
	// The greatest that there may be.
	checkFormat(t, api.MaxPages, alike(84, xs(24))...)
	checkFormat(t, api.MaxPages, alike(21*21, "")...)
}

// TestP1701FormatBytes holds the bytes of all pages against those that are written here.
func TestP1701FormatBytes(t *testing.T) {
	page := func(from, to string) string {
		return from + strings.Repeat("\x00", api.PageSize-len(from)-len(to)) + to
	}
	const one = "\x00\x00\x00\x00\x00\x00\x00\x01"
	checkPages(t, formatted(t, 8), []string{
		blank,
		page(one+"\x00\x02\x00\x08", one),
		page("I\x00", ""),
		blank, blank, blank, blank, blank,
	}, 0)
	long := xs(121)
	checkPages(t, formatted(t, 9, rec(3, "hi"), rec(258, long)), []string{
		blank,
		page(one+"\x00\x05\x00\x09", one),
		page("C\x00\x00\x01x", ""),
		page("C\x00\x02\x78"+long[1:], ""),
		page("L\x02\x00\x00\x00\x03\x00\x02hi\x00\x00\x01\x02\x00\x79\x00\x03", ""),
		page("I\x01\x00\x00\x00\x03\x00\x04", ""),
		blank, blank, blank,
	}, 0)
}

func TestP1701FormatPages(t *testing.T) {
	tooMany, tooGreat, twice := alike(85, xs(24)), []shelf.Record{rec(0, varied(1, 900))}, []shelf.Record{rec(1, ""), rec(1, "")}
	for _, pages := range []int{api.MinPages - 1, api.MaxPages + 1, 0, 1, 2, 3, -1, -api.MinPages, 1 << 16, math.MaxInt, math.MinInt} {
		notFormatted(t, api.ErrArg, pages)
		notFormatted(t, api.ErrArg, pages, rec(1, "a"))
		// Ahead of what shelf.Plan tells.
		notFormatted(t, api.ErrArg, pages, tooMany...)
		notFormatted(t, api.ErrArg, pages, tooGreat...)
		notFormatted(t, api.ErrArg, pages, twice...)
	}
}

func TestP1701FormatRefused(t *testing.T) {
	wrong := [][]shelf.Record{
		{rec(-1, "")}, {rec(topKey+1, "")}, {rec(math.MinInt, "")},
		{rec(1, ""), rec(1, "")}, {rec(2, ""), rec(1, "")},
		{rec(1, xs(901))}, {rec(0, ""), rec(1, ""), rec(3, ""), rec(2, "")},
		append(alike(85, xs(24)), rec(0, "")),
	}
	for _, pages := range []int{api.MinPages, 50, api.MaxPages} {
		for _, l := range wrong {
			notFormatted(t, api.ErrArg, pages, l...)
		}
		// Ahead of ErrFull.
		notFormatted(t, api.ErrMany, pages, alike(85, xs(24))...)
		notFormatted(t, api.ErrMany, pages, alike(21*21+1, "")...)
		notFormatted(t, api.ErrMany, pages, alike(21*15+1, varied(1, 900))...)
	}
	// Just enough pages, and one fewer.
	for _, pages := range append(seq(api.MinPages, 30), 31, 64, 100, api.MaxPages-1) {
		l := filling(pages - 2)
		checkFormat(t, pages, l...)
		checkFormat(t, pages+1, l...)
		notFormatted(t, api.ErrFull, pages, filling(pages-1)...)
	}
	notFormatted(t, api.ErrFull, api.MaxPages, append(filling(api.MaxPages-2), rec(topKey, xs(25)))...)
}

// filling is records that take just so many pages: an index, leaves, and chains of which no two pieces are alike.
func filling(pages int) []shelf.Record {
	var l []shelf.Record
	for shelf.Need(l...) < pages {
		key := len(l)
		l = append(l, rec(key, string([]byte{byte(key), byte(key >> 8)})+xs(23)))
		if shelf.Need(l...) > pages {
			// It took a leaf beside its chain: by its key it takes the leaf alone.
			l[key].Bytes = ""
		}
	}
	return l
}

func TestP1701OpenNone(t *testing.T) {
	notOpened(t, nil, api.ErrArg)
	notOpened(t, &platter.Platter{}, api.ErrArg)
}

func TestP1701OpenLoads(t *testing.T) {
	// A halted one, whatever it has.
	for _, pages := range [][]string{dump(t, formatted(t, 8, rec(1, "a"))), blanks(8), blanks(1), put(blanks(8), at(0, head(1, 2, 9)))} {
		p := disk(t, pages)
		p.Halt(0)
		if err := p.Store(0, blank); err != api.ErrDead {
			t.Fatalf("Store: %d", err)
		}
		notOpened(t, p, api.ErrDead)
		notOpened(t, p, api.ErrDead)
	}
	// One that is to halt, but did not.
	p := formatted(t, 8, rec(1, "a"))
	p.Halt(0)
	checkTells(t, opened(t, p), there{1, []shelf.Record{rec(1, "a")}, nil, []int{2, 3}, seq(4, 8)})
	// There is no page 1.
	notOpened(t, platter.New(1), api.ErrRange)
	notOpened(t, disk(t, []string{head(1, 2, 8)}), api.ErrRange)
}

// TestP1701OpenCrowns lays an empty tree in page 2, one with a record in page 3, and any two pages ahead of them.
func TestP1701OpenCrowns(t *testing.T) {
	leaf := laid(sheet.Leaf(sheet.Cell{Key: 5, Size: 2, Bytes: "hi"}))
	under := put(blanks(9), at(2, laid(sheet.Index())), at(3, laid(sheet.Index(sheet.Slot{Key: 5, Page: 4}))), at(4, leaf))
	pages := func(a, b string) []string { return put(under, at(0, a), at(1, b)) }
	empty := func(gen int) there { return there{gen: gen, live: []int{2}, free: seq(3, 9)} }
	one := func(gen int) there {
		return there{gen, []shelf.Record{rec(5, "hi")}, nil, []int{3, 4}, []int{2, 5, 6, 7, 8}}
	}
	junk := strings.Repeat("junk", api.PageSize/4)
	nones := []string{blank, junk, leaf, under[2], head(3, 2, 9)[1:] + "\x00", torn(64, head(3, 2, 9), head(4, 2, 9))}
	for _, a := range nones {
		for _, b := range nones {
			notOpened(t, disk(t, pages(a, b)), api.ErrForm)
		}
		// One of them alone, in whichever place.
		for _, gen := range []int{1, 2, 7, 1 << 40, topGen} {
			checkTells(t, checkOpen(t, disk(t, pages(a, head(gen, 2, 9)))), empty(gen))
			checkTells(t, checkOpen(t, disk(t, pages(head(gen, 3, 9), a))), one(gen))
		}
	}
	// Both: the greater Gen; of the same the first.
	for _, gen := range []int{1, 2, 255, 256, 1 << 40, topGen - 1} {
		checkTells(t, checkOpen(t, disk(t, pages(head(gen, 2, 9), head(gen+1, 3, 9)))), one(gen+1))
		checkTells(t, checkOpen(t, disk(t, pages(head(gen+1, 2, 9), head(gen, 3, 9)))), empty(gen+1))
		checkTells(t, checkOpen(t, disk(t, pages(head(gen, 2, 9), head(gen, 3, 9)))), empty(gen))
		checkTells(t, checkOpen(t, disk(t, pages(head(gen, 3, 9), head(gen, 2, 9)))), one(gen))
	}
	// The later one is torn, over one that was there ahead of both.
	for cut := range api.PageSize + 1 {
		p := disk(t, pages(head(256, 2, 9), torn(cut, head(511, 3, 9), head(255, 3, 9))))
		// The last bytes of 255 and of 511 are the same.
		if cut < api.PageSize-1 {
			checkTells(t, checkOpen(t, p), empty(256))
		} else {
			checkTells(t, checkOpen(t, p), one(511))
		}
	}
}

func TestP1701OpenOtherPages(t *testing.T) {
	index := laid(sheet.Index())
	for _, pages := range []int{api.MinPages, 20, api.MaxPages} {
		under := put(blanks(pages), at(2, index))
		for _, other := range []int{api.MinPages, pages - 1, pages + 1, api.MaxPages} {
			if other < api.MinPages || other > api.MaxPages || other == pages {
				continue
			}
			wrong := head(6, 2, other)
			notOpened(t, disk(t, put(under, at(0, wrong))), api.ErrForm)
			notOpened(t, disk(t, put(under, at(1, wrong))), api.ErrForm)
			// The one that counts is wrong, and it alone is asked.
			notOpened(t, disk(t, put(under, at(0, wrong), at(1, head(5, 2, pages)))), api.ErrForm)
			notOpened(t, disk(t, put(under, at(0, head(5, 2, pages)), at(1, wrong))), api.ErrForm)
			checkOpen(t, disk(t, put(under, at(0, wrong), at(1, head(7, 2, pages)))))
			checkOpen(t, disk(t, put(under, at(0, head(7, 2, pages)), at(1, wrong))))
		}
	}
	// One that has fewer pages than there may be.
	for pages := 2; pages < api.MinPages; pages++ {
		notOpened(t, platter.New(pages), api.ErrForm)
		notOpened(t, disk(t, put(blanks(pages), at(0, head(6, 2, api.MinPages)))), api.ErrForm)
	}
}

func TestP1701OpenRead(t *testing.T) {
	index := func(page int) string { return laid(sheet.Index(sheet.Slot{Key: 5, Page: page})) }
	leaf := func(page int) string { return laid(sheet.Leaf(sheet.Cell{Key: 5, Size: 130, Page: page})) }
	link := func(next int) string { return laid(sheet.Chain(next, xs(120))) }
	end := laid(sheet.Chain(0, xs(10)))
	// The older crown has a tree without a fault, but does not count.
	under := put(blanks(8), at(0, head(6, 2, 8)), at(1, head(7, 3, 8)), at(2, laid(sheet.Index())))
	right := put(under, at(3, index(4)), at(4, leaf(5)), at(5, link(6)), at(6, end))
	checkTells(t, checkOpen(t, disk(t, right)), there{7, []shelf.Record{rec(5, xs(130))}, nil, []int{3, 4, 5, 6}, []int{2, 7}})
	// A page of it is not what it is to be.
	for page := 3; page < 7; page++ {
		for _, b := range []string{blank, xs(api.PageSize), head(7, 3, 8)} {
			notOpened(t, disk(t, put(right, at(page, b))), api.ErrForm)
		}
	}
	notOpened(t, disk(t, put(right, at(4, laid(sheet.Leaf())))), api.ErrForm)
	notOpened(t, disk(t, put(right, at(6, link(0)))), api.ErrForm)
	// A page of it is none of the platter's.
	for _, page := range []int{8, 9, api.MaxPages - 1} {
		notOpened(t, disk(t, put(right, at(3, index(page)))), api.ErrRange)
		notOpened(t, disk(t, put(right, at(4, leaf(page)))), api.ErrRange)
		notOpened(t, disk(t, put(right, at(5, link(page)))), api.ErrRange)
	}
	// What is not of it may be anything.
	checkOpen(t, disk(t, put(right, at(2, blank), at(7, xs(api.PageSize)))))
}

func TestP1701OpenAfloat(t *testing.T) {
	p := formatted(t, 8, rec(1, "a"))
	// What is afloat counts, and stays afloat.
	store(t, p, 6, xs(api.PageSize))
	store(t, p, 4, laid(sheet.Index()))
	store(t, p, 0, head(2, 4, 8))
	checkTells(t, checkOpen(t, p), there{2, nil, nil, []int{4}, []int{2, 3, 5, 6, 7}})
	p.Fail()
	checkTells(t, checkOpen(t, p), there{1, []shelf.Record{rec(1, "a")}, nil, []int{2, 3}, seq(4, 8)})
}

func TestP1701Save(t *testing.T) {
	for _, pages := range []int{60, api.MaxPages} {
		for _, first := range lists() {
			p := formatted(t, pages, first...)
			v := opened(t, p)
			for _, l := range lists() {
				checkSave(t, p, v, api.OK, l...)
				checkSave(t, p, v, api.OK, first...)
			}
		}
	}
}

// TestP1701SaveBytes holds the bytes of all pages against those that are written here.
func TestP1701SaveBytes(t *testing.T) {
	page := func(from, to string) string {
		return from + strings.Repeat("\x00", api.PageSize-len(from)-len(to)) + to
	}
	crowned := func(gen, root string) string {
		gen = "\x00\x00\x00\x00\x00\x00\x00" + gen
		return page(gen+"\x00"+root+"\x00\x08", gen)
	}
	p := formatted(t, 8)
	v := opened(t, p)
	want := put(blanks(8), at(1, crowned("\x01", "\x02")), at(2, page("I\x00", "")))
	checkPages(t, p, want, 0)
	save(t, v, rec(7, "a"))
	want = put(want, at(3, page("L\x01\x00\x00\x00\x07\x00\x01a", "")), at(4, page("I\x01\x00\x00\x00\x07\x00\x03", "")), at(0, crowned("\x02", "\x04")))
	checkPages(t, p, want, 0)
	checkTells(t, v, there{2, []shelf.Record{rec(7, "a")}, nil, []int{3, 4}, []int{2, 5, 6, 7}})
	save(t, v, rec(7, xs(25)))
	want = put(want, at(2, page("C\x00\x00\x19"+xs(25), "")), at(5, page("L\x01\x00\x00\x00\x07\x00\x19\x00\x02", "")), at(6, page("I\x01\x00\x00\x00\x07\x00\x05", "")), at(1, crowned("\x03", "\x06")))
	checkPages(t, p, want, 0)
	checkTells(t, v, there{3, []shelf.Record{rec(7, xs(25))}, nil, []int{2, 5, 6}, []int{3, 4, 7}})
	// Nothing is written but the crown.
	save(t, v, rec(7, xs(25)))
	want = put(want, at(0, crowned("\x04", "\x06")))
	checkPages(t, p, want, 0)
	checkTells(t, v, there{4, []shelf.Record{rec(7, xs(25))}, nil, []int{2, 5, 6}, []int{3, 4, 7}})
}

func TestP1701SaveRefused(t *testing.T) {
	l := []shelf.Record{rec(1, "a"), rec(2, varied(1, 130))}
	p := formatted(t, 9, l...)
	v := opened(t, p)
	// It is not let last, either.
	store(t, p, 8, xs(api.PageSize))
	for range 2 {
		checkSave(t, p, v, api.ErrArg, rec(-1, ""))
		checkSave(t, p, v, api.ErrArg, rec(topKey+1, ""))
		checkSave(t, p, v, api.ErrArg, rec(2, ""), rec(1, ""))
		checkSave(t, p, v, api.ErrArg, rec(1, ""), rec(1, ""))
		checkSave(t, p, v, api.ErrArg, rec(1, xs(901)))
		checkSave(t, p, v, api.ErrMany, alike(85, xs(24))...)
		checkSave(t, p, v, api.ErrMany, alike(21*21+1, "")...)
		checkSave(t, p, v, api.ErrFull, rec(1, varied(2, 240)))
		checkSave(t, p, v, api.ErrFull, rec(1, varied(2, 900)))
	}
	p.Fail()
	checkTells(t, v, plain(t, dump(t, p)))
	// It goes on.
	checkSave(t, p, v, api.OK, rec(1, "b"))
	checkSave(t, p, v, api.OK, l...)
}

func TestP1701SaveFull(t *testing.T) {
	for _, pages := range []int{api.MinPages, 9, 20, 50, api.MaxPages} {
		for _, used := range []int{1, 2, 3, (pages - 2) / 2, pages - 4, pages - 3, pages - 2} {
			p := formatted(t, pages, filling(used)...)
			v := opened(t, p)
			left := pages - 2 - used
			checkSave(t, p, v, api.ErrFull, other(left+1)...)
			if left > 0 {
				checkSave(t, p, v, api.OK, other(left)...)
				checkSave(t, p, v, api.OK, other(1)...)
				checkSave(t, p, v, api.OK, filling(used)...)
				checkSave(t, p, v, api.ErrFull, other(left+1)...)
			}
			// What is there already needs no page.
			checkSave(t, p, v, api.OK, filling(used)...)
		}
	}
}

// other is records that take just so many pages, of which none is one of filling.
func other(pages int) []shelf.Record {
	if pages == 1 {
		return nil
	}
	l := []shelf.Record{rec(0, "first")}
	for key := 1; shelf.Need(l...) < pages; key++ {
		l = append(l, rec(key, string([]byte{byte(key), byte(key >> 8)})+xs(24)))
		if shelf.Need(l...) > pages {
			l[key].Bytes = ""
		}
	}
	return l
}

func TestP1701SaveTwice(t *testing.T) {
	for _, l := range lists() {
		p := formatted(t, 60, l...)
		v := opened(t, p)
		live := v.Live()
		for gen := 2; gen < 20; gen++ {
			pages := dump(t, p)
			// No page but the crown's.
			p.Halt(1)
			save(t, v, l...)
			p.Halt(-1)
			checkPages(t, p, put(pages, at(gen%2, head(gen, plainRoot(pages), 60))), 0)
			if !slices.Equal(v.Live(), live) || v.Gen() != gen {
				t.Errorf("Live %d, Gen %d, not %d, %d", v.Live(), v.Gen(), live, gen)
			}
		}
	}
}

func plainRoot(pages []string) int {
	c, _, _ := crown.Pick(pages[0], pages[1])
	return c.Root
}

// TestP1701SaveThere opens a tree of which two pages have the same bytes, and saves what needs one of them.
func TestP1701SaveThere(t *testing.T) {
	cells := []sheet.Cell{{Key: 1, Size: 25, Page: 7}, {Key: 2, Size: 25, Page: 3}}
	tree := put(blanks(10), at(0, head(8, 9, 10)), at(3, laid(sheet.Chain(0, xs(25)))), at(7, laid(sheet.Chain(0, xs(25)))), at(5, laid(sheet.Leaf(cells...))), at(9, laid(sheet.Index(sheet.Slot{Key: 1, Page: 5}))))
	p := disk(t, tree)
	v := checkOpen(t, p)
	l := []shelf.Record{rec(1, xs(25)), rec(2, xs(25))}
	checkTells(t, v, there{8, l, nil, []int{3, 5, 7, 9}, []int{2, 4, 6, 8}})
	checkSave(t, p, v, api.OK, l...)
	checkTells(t, v, there{9, l, nil, []int{2, 3, 4}, []int{5, 6, 7, 8, 9}})
}

// TestP1701SaveGens saves behind crowns that lie where they do not belong, and behind the last Gen but one.
func TestP1701SaveGens(t *testing.T) {
	under := put(blanks(8), at(2, laid(sheet.Index())))
	for _, gen := range []int{1, 2, 255, 256, 1<<32 - 1, topGen - 1} {
		for _, place := range []int{0, 1} {
			p := disk(t, put(under, at(place, head(gen, 2, 8))))
			v := checkOpen(t, p)
			checkSave(t, p, v, api.OK, rec(1, "a"))
			if v.Gen() != gen+1 {
				t.Errorf("Gen %d behind %d", v.Gen(), gen)
			}
		}
	}
	// There is no next one: that changes nothing.
	pages := put(under, at(0, head(topGen, 2, 8)), at(1, head(topGen-1, 2, 8)))
	p := disk(t, pages)
	v := checkOpen(t, p)
	store(t, p, 7, xs(api.PageSize))
	for range 2 {
		for _, l := range lists()[:3] {
			if err := v.Save(l...); err != api.ErrArg {
				t.Errorf("Save(%#v) behind the last Gen: %d", l, err)
			}
		}
		if err := v.Save(rec(1, varied(1, 900))); err != api.ErrFull {
			t.Errorf("Save behind the last Gen of what does not fit: %d", err)
		}
	}
	checkPages(t, p, put(pages, at(7, xs(api.PageSize))), 1)
	checkTells(t, v, there{gen: topGen, live: []int{2}, free: seq(3, 8)})
}

// checkDead wants that no Save saves any more, nor stores or lets last.
func checkDead(t *testing.T, p *platter.Platter, v *Vault) {
	t.Helper()
	afloat := p.Afloat()
	for _, l := range append(lists(), []shelf.Record{rec(-1, "")}, alike(85, xs(24)), alike(80, varied(1, 900))) {
		if err := v.Save(l...); err != api.ErrDead {
			t.Errorf("Save(%#v) of a dead one: %d", l, err)
		}
	}
	if n := p.Afloat(); n != afloat {
		t.Errorf("a dead one has %d afloat, not %d", n, afloat)
	}
	l := append(v.Live(), v.Free()...)
	slices.Sort(l)
	if !slices.Equal(l, seq(2, p.Pages())) {
		t.Errorf("Live %d and Free %d of a dead one", v.Live(), v.Free())
	}
}

// halted is a twin of p that halts at this Store of a Save, and its Vault.
func halted(t *testing.T, p *platter.Platter, stop int, l []shelf.Record) (*platter.Platter, *Vault) {
	t.Helper()
	p = p.Twin()
	v := opened(t, p)
	p.Halt(stop)
	if err := v.Save(l...); err != api.ErrDead {
		t.Fatalf("Save(%#v) that halts at Store %d: %d", l, stop, err)
	}
	if !p.Halted() {
		t.Fatalf("Save(%#v) told ErrDead of a platter that runs", l)
	}
	return p, v
}

func TestP1701SaveHalts(t *testing.T) {
	full := slices.Repeat([]int{api.PageSize}, api.MaxPages)
	for _, first := range lists() {
		p := formatted(t, 60, first...)
		pages := dump(t, p)
		for _, l := range lists() {
			writes, _, _ := stores(t, pages, l)
			for stop := range len(writes) + 1 {
				// Nothing lasts ahead of the last of the Writes, all of them ahead of the crown.
				afloat, least := stop, pages
				if stop == len(writes) {
					afloat, least = 0, put(pages, writes...)
				}
				dead, v := halted(t, p, stop, l)
				if n := dead.Afloat(); n != afloat {
					t.Fatalf("%d are afloat at Store %d, not %d", n, stop, afloat)
				}
				lost, all := dead.Twin(), dead.Twin()
				lost.Fail()
				checkPages(t, lost, least, 0)
				all.Fail(full...)
				checkPages(t, all, put(pages, writes[:stop]...), 0)
				checkDead(t, dead, v)
				dead.Fail(full...)
				checkDead(t, dead, v)
				checkPages(t, dead, put(pages, writes[:stop]...), 0)
				checkSave(t, dead, checkOpen(t, dead), api.OK, l...)
				checkDead(t, dead, v)
			}
			// One Store more is as none that halts.
			whole := p.Twin()
			v := opened(t, whole)
			whole.Halt(len(writes) + 1)
			checkSave(t, whole, v, api.OK, l...)
			if err := whole.Store(0, blank); err != api.ErrDead {
				t.Errorf("Save(%#v) has not just %d Stores", l, len(writes)+1)
			}
		}
	}
}

// TestP1701SaveHaltedAhead saves on a platter that has halted before.
func TestP1701SaveHaltedAhead(t *testing.T) {
	l := []shelf.Record{rec(1, "a")}
	p := formatted(t, 8, l...)
	v := opened(t, p)
	pages := dump(t, p)
	halt := func() {
		p.Halt(0)
		if err := p.Store(7, blank); err != api.ErrDead {
			t.Fatalf("Store: %d", err)
		}
	}
	halt()
	// What Plan refuses comes to no Store.
	for _, want := range []struct {
		err api.Errno
		l   []shelf.Record
	}{{api.ErrArg, []shelf.Record{rec(-1, "")}}, {api.ErrMany, alike(85, xs(24))}, {api.ErrFull, []shelf.Record{rec(1, varied(1, 900))}}} {
		if err := v.Save(want.l...); err != want.err {
			t.Errorf("Save(%#v): %d, not %d", want.l, err, want.err)
		}
	}
	p.Fail()
	checkTells(t, v, plain(t, pages))
	checkSave(t, p, v, api.OK, rec(2, "b"))
	pages = dump(t, p)
	halt()
	// There is no page to write, but the Settle is refused.
	if err := v.Save(rec(2, "b")); err != api.ErrDead {
		t.Errorf("Save: %d", err)
	}
	checkDead(t, p, v)
	p.Fail()
	checkDead(t, p, v)
	checkPages(t, p, pages, 0)
	checkSave(t, p, checkOpen(t, p), api.OK, l...)
}

// TestP1701SaveSettles has a page afloat that is none of the Save's: it lasts as the Writes do, ahead of the crown.
func TestP1701SaveSettles(t *testing.T) {
	for _, l := range lists() {
		p := formatted(t, 60, rec(1, varied(1, 130)))
		v := opened(t, p)
		store(t, p, 59, xs(api.PageSize))
		pages := dump(t, p)
		writes, _, _ := stores(t, pages, l)
		p.Halt(len(writes))
		if err := v.Save(l...); err != api.ErrDead {
			t.Fatalf("Save(%#v): %d", l, err)
		}
		if n := p.Afloat(); n != 0 {
			t.Errorf("%d are afloat behind the Settle", n)
		}
		p.Fail()
		checkPages(t, p, put(pages, writes...), 0)
	}
	// So if nothing else is to be written.
	p := formatted(t, 8)
	v := opened(t, p)
	store(t, p, 7, xs(api.PageSize))
	p.Halt(0)
	if err := v.Save(); err != api.ErrDead {
		t.Errorf("Save: %d", err)
	}
	p.Fail()
	checkPages(t, p, put(dump(t, formatted(t, 8)), at(7, xs(api.PageSize))), 0)
}

func TestP1702Tells(t *testing.T) {
	p := formatted(t, 8, rec(1, "a"))
	v := opened(t, p)
	checkTells(t, v, there{1, []shelf.Record{rec(1, "a")}, nil, []int{2, 3}, []int{4, 5, 6, 7}})
	save(t, v, rec(2, "b"))
	checkTells(t, v, there{2, []shelf.Record{rec(2, "b")}, nil, []int{4, 5}, []int{2, 3, 6, 7}})
	// The pages of the chain are ahead of those of leaf and index, behind and between that of the free ones.
	save(t, v, rec(2, xs(130)))
	checkTells(t, v, there{3, []shelf.Record{rec(2, xs(130))}, nil, []int{2, 3, 6, 7}, []int{4, 5}})
	save(t, v, rec(2, xs(10)))
	checkTells(t, v, there{4, []shelf.Record{rec(2, xs(10))}, nil, []int{4, 5}, []int{2, 3, 6, 7}})
	save(t, v)
	checkTells(t, v, there{5, nil, nil, []int{2}, []int{3, 4, 5, 6, 7}})
	// None is free.
	full := formatted(t, 8, rec(0, varied(1, 480)))
	checkTells(t, opened(t, full), there{1, []shelf.Record{rec(0, varied(1, 480))}, nil, seq(2, 8), nil})
	// The most that there may be.
	most := formatted(t, api.MaxPages, filling(api.MaxPages-2)...)
	checkTells(t, opened(t, most), there{1, filling(api.MaxPages - 2), nil, seq(2, api.MaxPages), nil})
	none := formatted(t, api.MaxPages)
	checkTells(t, opened(t, none), there{1, nil, nil, []int{2}, seq(3, api.MaxPages)})
}

// TestP1702Order has a tree whose pages do not rise in the order in which they are read.
func TestP1702Order(t *testing.T) {
	l := []shelf.Record{rec(5, xs(130)), rec(6, ""), rec(9, "end")}
	first, second := []sheet.Cell{{Key: 5, Size: 130, Page: 10}, {Key: 6}}, sheet.Cell{Key: 9, Size: 3, Bytes: "end"}
	p := disk(t, put(blanks(12),
		at(1, head(9, 11, 12)),
		at(11, laid(sheet.Index(sheet.Slot{Key: 5, Page: 8}, sheet.Slot{Key: 9, Page: 2}))),
		at(8, laid(sheet.Leaf(first...))),
		at(10, laid(sheet.Chain(4, xs(120)))),
		at(4, laid(sheet.Chain(0, xs(10)))),
		at(2, laid(sheet.Leaf(second)))))
	checkTells(t, checkOpen(t, p), there{9, l, nil, []int{2, 4, 8, 10, 11}, []int{3, 5, 6, 7, 9}})
}

func TestP1702None(t *testing.T) {
	for _, v := range []*Vault{nil, {}} {
		for range 2 {
			checkTells(t, v, there{})
			for _, l := range append(lists(), []shelf.Record{rec(-1, "")}, alike(85, xs(24))) {
				if err := v.Save(l...); err != api.ErrState {
					t.Errorf("Save(%#v): %d", l, err)
				}
			}
		}
	}
}

// apart wants that an answer is no piece of other bytes.
func apart(t *testing.T, b, answer string) {
	t.Helper()
	from, at := uintptr(unsafe.Pointer(unsafe.StringData(b))), uintptr(unsafe.Pointer(unsafe.StringData(answer)))
	if b != "" && answer != "" && from <= at && at < from+uintptr(len(b)) {
		t.Errorf("%q is a piece of %q", answer, b)
	}
}

func TestP1702AnswersAreNew(t *testing.T) {
	l := []shelf.Record{rec(1, varied(1, 24)), rec(2, varied(2, 25)), rec(3, varied(3, 240))}
	own := slices.Clone(l)
	p := formatted(t, 30, l...)
	v := opened(t, p)
	spoil := func() {
		records, again, live, free := v.Records(), v.Records(), v.Live(), v.Free()
		for i, r := range records {
			apart(t, again[i].Bytes, r.Bytes)
			for _, given := range own {
				apart(t, given.Bytes, r.Bytes)
			}
			for _, b := range dump(t, p) {
				apart(t, b, r.Bytes)
			}
			records[i] = rec(-1, "mine")
		}
		// Nothing behind the end of one is of another.
		records, live, free = append(records, rec(-2, "")), append(live, -2), append(free, -2)
		clear(records)
		clear(live)
		clear(free)
	}
	spoil()
	checkTells(t, v, plain(t, dump(t, p)))
	// What was handed in may turn.
	given := append(slices.Clone(l), rec(topKey, "behind"))
	save(t, v, given[:3]...)
	if given[3] != rec(topKey, "behind") {
		t.Errorf("Save turned what is behind a list's end to %#v", given[3])
	}
	clear(given)
	spoil()
	checkTells(t, v, there{2, own, nil, plain(t, dump(t, p)).live, plain(t, dump(t, p)).free})
	checkSave(t, p, v, api.OK, own...)
}

// cutLists are ways in which so many Stores may come to their pages.
func cutLists(draw *rand.Rand, count int) [][]int {
	all := slices.Repeat([]int{api.PageSize}, count)
	l := [][]int{
		nil, all,
		append(slices.Clone(all), 1, api.PageSize, 5),
		slices.Repeat([]int{-1}, count),
		slices.Repeat([]int{math.MaxInt}, count+3),
	}
	for range min(count, 2) {
		// The first so many; one of them alone; all but that one; that one torn.
		k := draw.IntN(count)
		alone, without, part := make([]int, k+1), slices.Clone(all), slices.Clone(all)
		alone[k], without[k], part[k] = api.PageSize, 0, draw.IntN(api.PageSize+1)
		l = append(l, all[:k], alone, without, part)
	}
	for range 4 {
		some := make([]int, draw.IntN(count+2))
		for k := range some {
			some[k] = draw.IntN(api.PageSize+3) - 1
		}
		l = append(l, some)
	}
	return l
}

// checkFail lets a halted platter fail, and wants one of two lists of records, whole, and that all goes on from there; it tells which.
func checkFail(t *testing.T, p *platter.Platter, cuts []int, before, after []shelf.Record) []shelf.Record {
	t.Helper()
	p.Fail(cuts...)
	v := checkOpen(t, p)
	is := v.Records()
	if !slices.Equal(is, before) && !slices.Equal(is, after) {
		t.Fatalf("Fail(%d): %#v, neither %#v nor %#v", cuts, is, before, after)
	}
	l := append(v.Live(), v.Free()...)
	slices.Sort(l)
	if !slices.Equal(l, seq(2, p.Pages())) {
		t.Fatalf("Fail(%d): Live %d, Free %d", cuts, v.Live(), v.Free())
	}
	return is
}

func TestP1703(t *testing.T) {
	draw := rand.New(rand.NewPCG(17, 1))
	for _, before := range lists() {
		p := formatted(t, 36, before...)
		// Older trees lie about, and a crown of one of them is there too.
		v := opened(t, p)
		save(t, v, lists()[5]...)
		save(t, v, before...)
		for _, after := range lists() {
			writes, _, err := stores(t, dump(t, p), after)
			if err != api.OK {
				checkSave(t, p, v, err, after...)
				continue
			}
			for stop := range len(writes) + 1 {
				dead, _ := halted(t, p, stop, after)
				for _, cuts := range cutLists(draw, stop) {
					twin := dead.Twin()
					checkFail(t, twin, cuts, before, after)
					save(t, opened(t, twin), after...)
					checkFail(t, twin, cuts, after, after)
				}
			}
		}
	}
}

// TestP1703Cuts tears each of the Writes of one Save at each of its bytes.
func TestP1703Cuts(t *testing.T) {
	before, after := lists()[4], lists()[5]
	p := formatted(t, 20, before...)
	save(t, opened(t, p), before...)
	writes, _, _ := stores(t, dump(t, p), after)
	for stop := range len(writes) + 1 {
		dead, _ := halted(t, p, stop, after)
		for k := range min(stop, len(writes)) {
			for cut := range api.PageSize + 1 {
				cuts := slices.Repeat([]int{cut / 2}, stop)
				cuts[k] = cut
				checkFail(t, dead.Twin(), cuts, before, after)
			}
		}
	}
}

// TestP1703Crown tears the crown of a Save at each of its bytes, as if the machine failed behind its Store.
func TestP1703Crown(t *testing.T) {
	before, after := lists()[4], lists()[5]
	for saves := range 4 {
		p := formatted(t, 20, before...)
		v := opened(t, p)
		for range saves {
			save(t, v, before...)
		}
		writes, crowned, _ := stores(t, dump(t, p), after)
		dead, _ := halted(t, p, len(writes), after)
		dead.Fail()
		for cut := range api.PageSize + 1 {
			twin := dead.Twin()
			store(t, twin, crowned.Page, crowned.Bytes)
			is := checkFail(t, twin, []int{cut}, before, after)
			if cut == 0 && !slices.Equal(is, before) || cut == api.PageSize && !slices.Equal(is, after) {
				t.Errorf("of %d bytes of the crown: %#v", cut, is)
			}
			checkSave(t, twin, opened(t, twin), api.OK, after...)
			checkSave(t, twin, opened(t, twin), api.OK, before...)
		}
	}
}

// TestP1703Lasts fails behind a Save that told OK.
func TestP1703Lasts(t *testing.T) {
	for _, before := range lists() {
		for _, after := range lists() {
			p := formatted(t, 60, before...)
			v := opened(t, p)
			save(t, v, after...)
			checkFail(t, p, nil, after, after)
			// It is not dead: nothing of it was under way.
			checkSave(t, p, v, api.OK, before...)
			checkFail(t, p, []int{0, 1}, before, before)
		}
	}
}

// someRecords draws right ones, of which many have pieces in common.
func someRecords(draw *rand.Rand, most int) []shelf.Record {
	sizes := []int{0, 1, 10, 23, 24, 25, 26, 119, 120, 121, 240, 241, 480, 900}
	var l []shelf.Record
	key := draw.IntN(3)
	for range draw.IntN(most + 1) {
		n := sizes[draw.IntN(len(sizes))]
		b := []byte(xs(n))
		for from := 0; from < n; from += api.Chain {
			if draw.IntN(2) == 0 {
				b[from] = byte('a' + draw.IntN(4))
			}
		}
		l = append(l, rec(key, string(b)))
		key += 1 + draw.IntN(3)
	}
	return l
}

// TestP1703AgainAndAgain draws Saves, of which some halt, upon one platter that is opened behind each Fail.
func TestP1703AgainAndAgain(t *testing.T) {
	draw := rand.New(rand.NewPCG(17, 2))
	counts := map[api.Errno]int{}
	for range 30 {
		pages := api.MinPages + draw.IntN(40)
		p := formatted(t, pages)
		v := opened(t, p)
		var last []shelf.Record
		for range 60 {
			l := someRecords(draw, 8)
			stop := draw.IntN(24) - 4
			p.Halt(stop)
			err := v.Save(l...)
			counts[err]++
			switch {
			case err == api.OK:
				last = l
			case err != api.ErrDead:
				continue
			}
			if err == api.OK && draw.IntN(2) == 0 {
				// It goes on, and halts at whatever Store of a later one.
				continue
			}
			cuts := cutLists(draw, p.Afloat())
			last = checkFail(t, p, cuts[draw.IntN(len(cuts))], last, l)
			if err == api.ErrDead {
				checkDead(t, p, v)
			}
			v = opened(t, p)
		}
		checkFail(t, p, nil, last, last)
	}
	for _, err := range []api.Errno{api.OK, api.ErrDead, api.ErrFull} {
		if counts[err] < 100 {
			t.Errorf("just %d of %d", counts[err], err)
		}
	}
}
