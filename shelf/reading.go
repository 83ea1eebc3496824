package shelf

import (
	"cmp"
	"slices"
	"strings"

	"maquette/api"
	"maquette/sheet"
)

// reading is what was read of a tree so far.
type reading struct {
	load  func(n int) (string, api.Errno)
	pages []Write // each once, rising
}

// tree tells the records of a root.
func (r *reading) tree(root int) ([]Record, api.Errno) {
	b, err := r.page(root)
	if err != api.OK {
		return nil, err
	}
	slots, ok := sheet.Slots(b)
	if !ok {
		return nil, api.ErrForm
	}
	var l []Record
	last := noKey
	for _, s := range slots {
		cells, err := r.leaf(s, last)
		if err != api.OK {
			return nil, err
		}
		for _, c := range cells {
			text, err := r.text(c)
			if err != api.OK {
				return nil, err
			}
			l = append(l, Record{Key: c.Key, Bytes: text})
			last = c.Key
		}
	}
	return l, api.OK
}

// leaf tells the cells of a slot: there are some, the first one is the slot's, and all are behind the last key.
func (r *reading) leaf(s sheet.Slot, last int) ([]sheet.Cell, api.Errno) {
	b, err := r.page(s.Page)
	if err != api.OK {
		return nil, err
	}
	// Within a page keys rise, so that only the first one is to be looked at.
	cells, ok := sheet.Cells(b)
	if !ok || len(cells) == 0 || cells[0].Key != s.Key || s.Key <= last {
		return nil, api.ErrForm
	}
	return cells, api.OK
}

// text tells the bytes of a cell, wherever they are.
func (r *reading) text(c sheet.Cell) (string, api.Errno) {
	if inline(c.Size) {
		return c.Bytes, api.OK
	}
	var all strings.Builder
	next := c.Page
	// Size, not what the pieces say, tells where it ends: one that goes round comes to an end too.
	for left := c.Size; left > 0; left -= api.Chain {
		text, behind, err := r.piece(next, min(left, api.Chain))
		if err != api.OK {
			return "", err
		}
		all.WriteString(text)
		next = behind
	}
	if next != noPage {
		return "", api.ErrForm
	}
	return all.String(), api.OK
}

// piece tells the bytes of a piece of this size, and which one is behind it.
func (r *reading) piece(n, size int) (string, int, api.Errno) {
	if n == noPage {
		return "", 0, api.ErrForm
	}
	b, err := r.page(n)
	if err != api.OK {
		return "", 0, err
	}
	behind, text, ok := sheet.Link(b)
	if !ok || len(text) != size {
		return "", 0, api.ErrForm
	}
	return text, behind, api.OK
}

// page tells the bytes of a page, which is loaded once, however many hang on it.
func (r *reading) page(n int) (string, api.Errno) {
	at, is := slices.BinarySearchFunc(r.pages, n, func(w Write, n int) int { return cmp.Compare(w.Page, n) })
	if is {
		return r.pages[at].Bytes, api.OK
	}
	b, err := r.load(n)
	if err != api.OK {
		return "", err
	}
	r.pages = slices.Insert(r.pages, at, Write{Page: n, Bytes: strings.Clone(b)})
	return r.pages[at].Bytes, api.OK
}
