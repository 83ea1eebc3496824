package shelf

import (
	"slices"

	"maquette/api"
	"maquette/sheet"
)

// plan is what is to be written, as it comes together.
// Records and pages that come to it are right, so that there is a sheet of each of them.
type plan struct {
	writes []Write
	places map[string]int // the pages that are there, or will be, by their bytes
	free   []int          // those that are left
}

func newPlan(have []Write, free []int) *plan {
	p := &plan{places: map[string]int{}, free: free}
	for _, w := range slices.Backward(have) {
		// From the last on, so that of those with the same bytes the first one stays.
		p.places[w.Bytes] = w.Page
	}
	return p
}

// tree finds places for all pages of records, and tells the root; false, if there are too few.
func (p *plan) tree(l []Record) (int, bool) {
	var cells []sheet.Cell
	for _, r := range l {
		page, ok := p.chain(r)
		if !ok {
			return 0, false
		}
		cells = append(cells, r.cell(page))
	}
	var slots []sheet.Slot
	for _, part := range leaves(cells) {
		leaf, _ := sheet.Leaf(part...)
		page, ok := p.place(leaf)
		if !ok {
			return 0, false
		}
		slots = append(slots, sheet.Slot{Key: part[0].Key, Page: page})
	}
	index, _ := sheet.Index(slots...)
	return p.place(index)
}

// chain finds places for the pieces of a record, and tells that of the first; there are none of one that stands by its key.
func (p *plan) chain(r Record) (int, bool) {
	if inline(len(r.Bytes)) {
		return noPage, true
	}
	pieces := slices.Collect(slices.Chunk([]byte(r.Bytes), api.Chain))
	next := noPage
	for _, piece := range slices.Backward(pieces) {
		link, _ := sheet.Chain(next, string(piece))
		page, ok := p.place(link)
		if !ok {
			return 0, false
		}
		next = page
	}
	return next, true
}

// place tells where these bytes are, or will be; false, if they are to be written and no page is left.
func (p *plan) place(b string) (int, bool) {
	if page, is := p.places[b]; is {
		return page, true
	}
	if len(p.free) == 0 {
		return 0, false
	}
	page := p.free[0]
	p.free = p.free[1:]
	p.places[b] = page
	p.writes = append(p.writes, Write{Page: page, Bytes: b})
	return page, true
}
