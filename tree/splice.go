package tree

import (
	"slices"

	"escritoire/api"
	"escritoire/cell"
)

// Splice answers another tree, in which the pieces l stand instead of those from from on and up to to.
func (t *Tree) Splice(from, to int, l []api.Piece) (*Tree, api.Errno) {
	if !t.made() {
		return nil, api.ErrState
	}
	if from < 0 || to < from || to > t.root.Bytes || !t.takes(l) {
		return nil, api.ErrArg
	}
	put := pieceItems(l)
	s := &splice{tree: t, from: from, to: to}
	e := caught(s.cut)
	if e != api.ErrArg && t.root.Bytes-(to-from)+total(put).Bytes > api.MaxText {
		return nil, api.ErrLong
	}
	if e != api.OK {
		return nil, e
	}
	if from == to && len(l) == 0 {
		same := *t
		return &same, api.OK
	}
	var next *Tree
	e = caught(func() { next = s.join(put) })
	if e != api.OK {
		s.drop(s.taken)
		return nil, e
	}
	// That comes last, so that till then the tree stands as it stood.
	s.drop(s.unreached())
	return next, api.OK
}

// takes tells whether pieces may stand in the tree. Leaves are asked, as they are what refuses one.
func (t *Tree) takes(l []api.Piece) bool {
	pages := t.store.Device().Pages()
	for part := range slices.Chunk(l, api.MaxPieces) {
		_, e := cell.Leaf(part)
		if e != api.OK || slices.ContainsFunc(part, func(p api.Piece) bool { return p.Page >= pages }) {
			return false
		}
	}
	return true
}

// splice is one under way: it cuts a gap into the tree, and joins its sides with what is put there, level by level from the leaves up.
type splice struct {
	tree     *Tree
	from, to int
	sides    []sides // by levels
	gone     []int   // pages of the tree that the new one does not reach
	taken    []int   // pages that the new one has
}

// sides are what is left of the pages beside the gap: their items ahead of it and behind it.
type sides struct {
	ahead, behind []item
}

// cut panics with ErrArg if from or to lies within a piece.
func (s *splice) cut() {
	t := s.tree
	if t.height == 0 {
		return
	}
	s.sides = make([]sides, t.height)
	s.gone = append(s.gone, t.root.Page)
	t.walk(t.root, t.height-1, 0, s.meet)
}

// meet puts an item where it belongs; true: the gap goes through its page, which is to be cut itself.
func (s *splice) meet(x item, level, begin int) bool {
	end, side := begin+x.Bytes, &s.sides[level]
	switch {
	case end <= s.from:
		side.ahead = append(side.ahead, x)
	case begin >= s.to:
		side.behind = append(side.behind, x)
	case level > 0:
		s.gone = append(s.gone, x.Page)
		// Of a leaf that goes as a whole nothing needs to be known.
		return level > 1 || begin < s.from || end > s.to
	case begin < s.from || end > s.to:
		panic(api.ErrArg)
	}
	return false
}

// join answers the tree in which put stands in the gap.
func (s *splice) join(put []item) *Tree {
	for level := 0; ; level++ {
		if level == len(s.sides) {
			s.sides = append(s.sides, sides{})
		}
		row := s.row(level, put)
		switch {
		case len(row) == 0 && s.highest(level):
			return &Tree{store: s.tree.store}
		case len(row) == 1 && level > 0:
			// So few are left only where there is nothing beside them: it is the root to which this one leads.
			return &Tree{store: s.tree.store, height: level, root: row[0].Kid}
		}
		put = s.lay(level, row)
	}
}

// row answers what stands at a level instead of the pages that were cut there. If that is too little for a page, pages beside the gap are cut, too, as long as there are any.
func (s *splice) row(level int, put []item) []item {
	side := &s.sides[level]
	for {
		row := slices.Concat(side.ahead, put, side.behind)
		if len(row) == 0 || len(row) >= least(level) || !s.widen(level) {
			return row
		}
	}
}

// widen lets a page beside the gap go, so that its items stand at the gap's sides; false, if there is none.
func (s *splice) widen(level int) bool {
	if s.highest(level) {
		return false
	}
	side, above := &s.sides[level], &s.sides[level+1]
	if len(above.ahead) == 0 && len(above.behind) == 0 {
		s.widen(level + 1)
	}
	if n := len(above.ahead) - 1; n >= 0 {
		side.ahead = slices.Concat(s.empty(above.ahead[n], level), side.ahead)
		above.ahead = above.ahead[:n]
	} else {
		side.behind = slices.Concat(side.behind, s.empty(above.behind[0], level))
		above.behind = above.behind[1:]
	}
	return true
}

// empty answers the items of a page that goes.
func (s *splice) empty(x item, level int) []item {
	s.gone = append(s.gone, x.Page)
	return s.tree.open(x.Kid, level)
}

// highest tells whether there is nothing at the sides above a level: what stands there then is all that there is.
func (s *splice) highest(level int) bool {
	for _, side := range s.sides[level+1:] {
		if len(side.ahead)+len(side.behind) > 0 {
			return false
		}
	}
	return true
}

// lay lays a row on as few pages as have room for it, none of which is left with less than half of that if there are several; it answers what leads to them.
func (s *splice) lay(level int, row []item) []item {
	var laid []item
	for pages := (len(row) + most(level) - 1) / most(level); pages > 0; pages-- {
		n := len(row) / pages
		laid = append(laid, item{Kid: s.write(level, row[:n])})
		row = row[n:]
	}
	return laid
}

func (s *splice) write(level int, l []item) api.Kid {
	b, e := seal(level, l)
	if e != api.OK {
		// All that it was made of may be; so the tree is higher than one may be.
		panic(api.ErrCorrupt)
	}
	page, e := s.tree.store.Alloc()
	check(e)
	s.taken = append(s.taken, page)
	check(s.tree.store.Write(page, b))
	k := total(l)
	k.Page = page
	return k
}

func seal(level int, l []item) ([]byte, api.Errno) {
	if level > 0 {
		var kids []api.Kid
		for _, x := range l {
			kids = append(kids, x.Kid)
		}
		return cell.Inner(level, kids)
	}
	var pieces []api.Piece
	for _, x := range l {
		pieces = append(pieces, x.piece)
	}
	return cell.Leaf(pieces)
}

// unreached are the pages of the tree that the new one does not reach. One that was spliced before has pages that were free already, and may have been taken here.
func (s *splice) unreached() []int {
	return slices.DeleteFunc(s.gone, func(page int) bool { return slices.Contains(s.taken, page) })
}

func (s *splice) drop(pages []int) {
	for _, page := range pages {
		s.tree.store.Drop(page)
	}
}

// most is how many items a page has at most, least how few one that is not the root.
func most(level int) int {
	if level == 0 {
		return api.MaxPieces
	}
	return api.MaxKids
}

func least(level int) int {
	return most(level) / 2
}
