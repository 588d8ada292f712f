package print

import (
	"slices"

	"beacon/api"
	"beacon/grid"
	"beacon/row"
)

// All below are of a screen that may be, in memory that is nobody else's: so the layers below refuse nothing that they are asked for.

// comb puts the mark r over the cell ahead of the cursor, or over its own, where the cursor could not go on.
func comb(s *api.Screen, r int) {
	at := s.Cur.Col - 1
	if s.Cur.Wrap {
		at = s.Cur.Col
	}
	if at < 0 {
		return
	}
	l, _ := row.Comb(line(s), at, r)
	copy(line(s), l)
}

// write puts b where the cursor is, or at the begin of the next row, and the cursor behind it.
func write(s *api.Screen, b body) {
	cols, wraps := seen(s).Cols, has(s, api.ModeWrap)
	fits := s.Cur.Col+b.cells <= cols
	if b.cells > cols || !fits && !wraps {
		return
	}
	if wraps && (s.Cur.Wrap || !fits) {
		down(s)
		s.Cur.Col = 0
	}
	put(s, b)
	s.Cur.Col += b.cells
	s.Cur.Wrap = s.Cur.Col == cols && wraps
	s.Cur.Col = min(s.Cur.Col, cols-1)
	s.Last = b.r
}

// put puts b, for which there is room, into the cursor's row.
func put(s *api.Screen, b body) {
	c, l := s.Cur, line(s)
	if has(s, api.ModeInsert) {
		l, _ = row.Insert(l, c.Col, b.cells, c.Attr)
	}
	l, _ = row.Put(l, c.Col, shown(c, b.r), c.Attr)
	copy(line(s), l)
}

// down makes the cursor go a row down, or the rows between the margins one up.
func down(s *api.Screen) {
	s.Cur.Wrap = false
	g := seen(s)
	if s.Cur.Row == s.Bottom {
		*g, _ = grid.Up(*g, s.Top, s.Bottom, 1, s.Cur.Attr)
		return
	}
	s.Cur.Row = min(s.Cur.Row+1, g.Rows-1)
}

// back makes the cursor go a row up, or the rows between the margins one down.
func back(s *api.Screen) {
	s.Cur.Wrap = false
	g := seen(s)
	if s.Cur.Row == s.Top {
		*g, _ = grid.Down(*g, s.Top, s.Bottom, 1, s.Cur.Attr)
		return
	}
	s.Cur.Row = max(s.Cur.Row-1, 0)
}

// line is the cursor's row, in the memory of s.
func line(s *api.Screen) []api.Cell {
	g := seen(s)
	low := s.Cur.Row * g.Cols
	return g.Cells[low : low+g.Cols]
}

// seen is the grid of s that is seen.
func seen(s *api.Screen) *api.Grid {
	if s.Swapped {
		return &s.Other
	}
	return &s.Main
}

// has tells whether s is in mode.
func has(s *api.Screen, mode int) bool {
	return s.Modes&mode != 0
}

// copied is s in memory of its own.
func copied(s api.Screen) api.Screen {
	s.Main.Cells = slices.Clone(s.Main.Cells)
	s.Other.Cells = slices.Clone(s.Other.Cells)
	s.Tabs = slices.Clone(s.Tabs)
	return s
}
