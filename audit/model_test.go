package audit_test

import (
	"bytes"
	"encoding/binary"
	"hash/crc32"
	"maps"
	"slices"

	"escritoire/api"
	"escritoire/audit"
)

// The model reads a device level by level and asks all that is told of it at the end, where the program goes down page by page.
type model struct {
	image   []byte
	size    int
	reached []int
}

// head opens a page of a Kind; nil if it is none, or beyond the end.
func (m *model) head(page, kind int) (level, count int, body []byte) {
	if page >= m.size {
		return 0, 0, nil
	}
	b := m.image[page*api.PageSize:][:api.PageSize]
	if binary.BigEndian.Uint32(b) != crc32.ChecksumIEEE(b[4:]) || int(b[4]) != kind {
		return 0, 0, nil
	}
	return int(b[5]), int(binary.BigEndian.Uint16(b[6:])), b[8:]
}

func number(b []byte, at, n int) int {
	x := 0
	for _, c := range b[at : at+n] {
		x = x<<8 | int(c)
	}
	return x
}

func clean(b []byte) bool {
	return bytes.Count(b, []byte{0}) == len(b)
}

// kidsOf answers none of a page that is no inner page of that level.
func (m *model) kidsOf(page, want int) []api.Kid {
	level, count, body := m.head(page, 2)
	if body == nil || level != want || count > 12 || !clean(body[20*count:]) {
		return nil
	}
	var l []api.Kid
	for i := range count {
		k := api.Kid{Page: number(body, 20*i, 4), Pieces: number(body, 20*i+4, 4), Bytes: number(body, 20*i+8, 8), Lines: number(body, 20*i+16, 4)}
		if k.Page < 2 || k.Page > 4095 || k.Pieces < 1 || k.Bytes < k.Pieces || k.Bytes > 1<<20 || k.Lines > k.Bytes {
			return nil
		}
		l = append(l, k)
	}
	return l
}

// piecesOf answers none of a page that is no leaf.
func (m *model) piecesOf(page int) []api.Piece {
	level, count, body := m.head(page, 3)
	if body == nil || level != 0 || count > 20 || !clean(body[12*count:]) {
		return nil
	}
	var l []api.Piece
	for i := range count {
		p := api.Piece{Page: number(body, 12*i, 4), Off: number(body, 12*i+4, 2), Len: number(body, 12*i+6, 2), Lines: number(body, 12*i+8, 2)}
		if p.Page < 2 || p.Page > 4095 || p.Len < 1 || p.Off+p.Len > full || p.Lines > p.Len || number(body, 12*i+10, 2) != 0 {
			return nil
		}
		l = append(l, p)
	}
	return l
}

// textOf answers none of a page that is no text page.
func (m *model) textOf(page int) []byte {
	level, count, body := m.head(page, 4)
	if body == nil || level != 0 || count > full || !clean(body[count:]) {
		return nil
	}
	return body[:count]
}

// chainOf reads up to as many pages as there are, so that it ends.
func (m *model) chainOf(page int) ([]byte, bool) {
	var all []byte
	for range m.size {
		if page == 0 {
			return all, true
		}
		level, count, body := m.head(page, 5)
		if body == nil || level != 0 || count < 1 || count > room || !clean(body[4+count:]) {
			return nil, false
		}
		m.reached = append(m.reached, page)
		all = append(all, body[4:4+count]...)
		page = number(body, 0, 4)
		if page != 0 && (page < 2 || page > 4095 || count != room) {
			return nil, false
		}
	}
	return nil, false
}

// twice tells whether a page was reached twice.
func (m *model) twice() bool {
	l := slices.Sorted(slices.Values(m.reached))
	return len(slices.Compact(l)) < len(m.reached)
}

// leaves answers the leaves' pages, and the kids of each level, from the highest on.
func (m *model) leaves(s api.Super) (pages []int, levels [][]api.Kid, ok bool) {
	pages = []int{s.Root}
	m.reached = append(m.reached, s.Root)
	least := 2
	for level := s.Height - 1; level > 0; level-- {
		var all []api.Kid
		var next []int
		for _, page := range pages {
			kids := m.kidsOf(page, level)
			if len(kids) < least {
				return nil, nil, false
			}
			all = append(all, kids...)
		}
		for _, k := range all {
			next = append(next, k.Page)
		}
		m.reached = append(m.reached, next...)
		if m.twice() {
			return nil, nil, false
		}
		pages, levels, least = next, append(levels, all), 6
	}
	return pages, levels, true
}

// told tells whether the kids' numbers are the sums of what lies below them, from the leaves up, and the superblock's at the end.
func (m *model) told(s api.Super, sums []api.Kid, levels [][]api.Kid) bool {
	for i := len(levels) - 1; i >= 0; i-- {
		if !slices.Equal(levels[i], sums) {
			return false
		}
		above := []int{s.Root}
		if i > 0 {
			above = nil
			for _, k := range levels[i-1] {
				above = append(above, k.Page)
			}
		}
		var higher []api.Kid
		for _, page := range above {
			k := api.Kid{Page: page}
			for range m.kidsOf(page, len(levels)-i) {
				k.Pieces, k.Bytes, k.Lines = k.Pieces+sums[0].Pieces, k.Bytes+sums[0].Bytes, k.Lines+sums[0].Lines
				sums = sums[1:]
			}
			higher = append(higher, k)
		}
		sums = higher
	}
	return sums[0].Bytes == s.Bytes && sums[0].Lines == s.Lines
}

// walked is the model's answer; false: it is corrupt.
func walked(image []byte, s api.Super) (r audit.Report, ok bool) {
	m := &model{image: image, size: len(image) / api.PageSize}
	if s.Pages != m.size {
		return r, false
	}
	r.Super, r.Place = s, -1
	if s.Root != 0 && !m.tree(s, &r) {
		return audit.Report{}, false
	}
	var free []byte
	var good bool
	if r.State, good = m.chainOf(s.State); !good {
		return audit.Report{}, false
	}
	if free, good = m.chainOf(s.Free); !good || m.twice() || len(free) != (m.size+7)/8 {
		return audit.Report{}, false
	}
	slices.Sort(m.reached)
	r.Pages = m.reached
	for bit := range 8 * len(free) {
		_, set := slices.BinarySearch(r.Pages, bit)
		if (set || bit < 2) != (free[bit/8]>>(bit%8)%2 == 1) {
			return audit.Report{}, false
		}
	}
	return r, true
}

func (m *model) tree(s api.Super, r *audit.Report) bool {
	pages, levels, ok := m.leaves(s)
	if !ok {
		return false
	}
	least := 10
	if s.Height == 1 {
		least = 1
	}
	var sums []api.Kid
	texts := map[int]bool{}
	for _, page := range pages {
		l := m.piecesOf(page)
		if len(l) < least {
			return false
		}
		k := api.Kid{Page: page, Pieces: len(l)}
		for _, p := range l {
			t := m.textOf(p.Page)
			if len(t) < p.Off+p.Len {
				return false
			}
			texts[p.Page] = true
			t = t[p.Off : p.Off+p.Len]
			n := len(bytes.Split(t, []byte{10})) - 1
			if n != p.Lines {
				return false
			}
			k.Bytes, k.Lines = k.Bytes+p.Len, k.Lines+n
			r.Text = append(r.Text, t...)
		}
		r.Pieces = append(r.Pieces, l...)
		sums = append(sums, k)
	}
	m.reached = slices.AppendSeq(m.reached, maps.Keys(texts))
	return m.told(s, sums, levels)
}
