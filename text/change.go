package text

import (
	"iter"
	"slices"

	"escritoire/api"
	"escritoire/cell"
)

// stretch is for how many bytes at a time the tree is asked when all pieces are gone through: few of its pages are met twice, and not too many pieces are held at once.
const stretch = 64 * api.BodySize

// Insert puts b at a place.
func (t *Text) Insert(at int, b []byte) api.Errno {
	switch {
	case !t.made():
		return api.ErrState
	case at < 0 || at > t.Len():
		return api.ErrArg
	case len(b) > api.MaxText-t.Len():
		return api.ErrLong
	case len(b) == 0:
		return api.OK
	}
	return t.change(func(c *change) { c.replace(at, at, b) })
}

// Delete takes n bytes out from a place on.
func (t *Text) Delete(at, n int) api.Errno {
	switch {
	case !t.made():
		return api.ErrState
	case !t.has(at, n):
		return api.ErrArg
	case n == 0:
		return api.OK
	}
	return t.change(func(c *change) { c.replace(at, at+n, nil) })
}

// Step makes the first two neighbours that fit into one text page one piece; false, if there are none.
func (t *Text) Step() (bool, api.Errno) {
	if !t.made() {
		return false, api.ErrState
	}
	done := false
	e := t.change(func(c *change) {
		for begin, two := range t.steps() {
			c.unite(begin, two)
			done = true
			break
		}
	})
	return done, e
}

// change is one under way.
type change struct {
	text  *Text
	taken []int // the text pages that it wrote
}

// change does one; if that fails, what it took is given back, as nothing reaches it: without a point there is no Back that would do so.
func (t *Text) change(do func(c *change)) api.Errno {
	c := &change{text: t}
	e := caught(func() { do(c) })
	if e != api.OK {
		for _, page := range c.taken {
			t.store.Drop(page)
		}
	}
	return e
}

// replace puts b where the bytes from from on and below to stand.
func (c *change) replace(from, to int, b []byte) {
	first, last := c.text.seam(from), c.text.seam(to)
	c.text.splice(first.begin, last.end, slices.Concat(first.ahead, c.lay(b), last.behind))
}

// unite puts two neighbours, the first of which begins at a place, on one page.
func (c *change) unite(begin int, two [2]api.Piece) {
	p := c.put(slices.Concat(c.text.content(two[0]), c.text.content(two[1])))
	c.text.splice(begin, begin+p.Len, []api.Piece{p})
}

// lay lays b on as few new pages as have room for it.
func (c *change) lay(b []byte) []api.Piece {
	var l []api.Piece
	for part := range slices.Chunk(b, api.BodySize) {
		l = append(l, c.put(part))
	}
	return l
}

// put writes a new page, and answers the piece that is all of it.
func (c *change) put(b []byte) api.Piece {
	sealed, e := cell.Bytes(b)
	check(e)
	page, e := c.text.store.Alloc()
	check(e)
	c.taken = append(c.taken, page)
	check(c.text.store.Write(page, sealed))
	return api.Piece{Page: page, Len: len(b), Lines: lines(b)}
}

// seam is made at a place. If it lies within a piece, begin and end are that one's, and ahead and behind its two parts; else they are the place itself, and there are no parts.
type seam struct {
	begin, end    int
	ahead, behind []api.Piece
}

func (t *Text) seam(at int) seam {
	none := seam{begin: at, end: at}
	if at == t.Len() {
		return none
	}
	p, begin, e := t.now.tree.Find(at)
	check(e)
	if begin == at {
		return none
	}
	b := t.content(p)
	part := func(from, to int) []api.Piece {
		return []api.Piece{{Page: p.Page, Off: p.Off + from, Len: to - from, Lines: lines(b[from:to])}}
	}
	return seam{begin: begin, end: begin + p.Len, ahead: part(0, at-begin), behind: part(at-begin, p.Len)}
}

// splice puts pieces where those between two seams stand. Text pages are dropped when nothing can fail any more, so that till then the text stands as it stood.
func (t *Text) splice(from, to int, put []api.Piece) {
	gone, _, e := t.now.tree.Range(from, to)
	check(e)
	next, e := t.now.tree.Splice(from, to, put)
	check(e)
	t.now.tree = next
	// Parts of what goes may be among what comes: their pages stay reached.
	for _, p := range put {
		t.now.reached[p.Page]++
	}
	for _, p := range gone {
		t.now.reached[p.Page]--
		if t.now.reached[p.Page] == 0 {
			t.store.Drop(p.Page)
		}
	}
}

// steps tells, from the left on, the neighbours that fit into one text page together, and where the first of the two begins.
func (t *Text) steps() iter.Seq2[int, [2]api.Piece] {
	return func(yield func(int, [2]api.Piece) bool) {
		var last api.Piece
		for begin, p := range t.pieces() {
			if begin > 0 && last.Len+p.Len <= api.BodySize && !yield(begin-last.Len, [2]api.Piece{last, p}) {
				return
			}
			last = p
		}
	}
}

// pieces tells all of them, and where each begins.
func (t *Text) pieces() iter.Seq2[int, api.Piece] {
	return func(yield func(int, api.Piece) bool) {
		for begin := 0; begin < t.Len(); {
			l, _, e := t.now.tree.Range(begin, begin+stretch)
			check(e)
			for _, p := range l {
				if !yield(begin, p) {
					return
				}
				begin += p.Len
			}
		}
	}
}
