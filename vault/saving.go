package vault

import (
	"slices"

	"maquette/api"
	"maquette/crown"
	"maquette/platter"
	"maquette/shelf"
)

// saving is what there will be, and what is to be written for it.
type saving struct {
	saved
	writes []shelf.Write
	head   shelf.Write // the page of its crown
}

// saving reckons all that is to be known of one ahead of the first Store, so that what is refused changes nothing.
func (v *Vault) saving(l []shelf.Record) (saving, api.Errno) {
	writes, root, err := shelf.Plan(l, v.pages, v.Free())
	if err != api.OK {
		return saving{}, err
	}
	gen := v.gen + 1
	head, ok := crown.Put(crown.Crown{Gen: gen, Root: root, Pages: v.disk.Pages()})
	if !ok {
		// Behind the greatest Gen there is no crown, and a Store of none would be ErrArg.
		return saving{}, api.ErrArg
	}
	records, pages, err := shelf.Read(root, among(slices.Concat(v.pages, writes)))
	return saving{
		saved:  saved{gen: gen, records: records, pages: pages},
		writes: writes,
		head:   shelf.Write{Page: crown.Slot(gen), Bytes: head},
	}, err
}

// write lets the whole tree last ahead of the crown, so that wherever it stops one of the two trees is whole and counts.
func (s saving) write(p *platter.Platter) api.Errno {
	if err := lasting(p, s.writes...); err != api.OK {
		return err
	}
	return lasting(p, s.head)
}

// lasting stores pages, and lets them last.
func lasting(p *platter.Platter, l ...shelf.Write) api.Errno {
	for _, w := range l {
		if err := p.Store(w.Page, w.Bytes); err != api.OK {
			return err
		}
	}
	return p.Settle()
}

// among loads pages that are in memory; a tree of them names no others.
func among(l []shelf.Write) func(n int) (string, api.Errno) {
	var pages [api.MaxPages]string
	for _, w := range l {
		pages[w.Page] = w.Bytes
	}
	return func(n int) (string, api.Errno) { return pages[n], api.OK }
}
