package edit

import (
	"beacon/api"
	"beacon/grid"
	"beacon/row"
)

// All below are of a screen that may be, in memory that is nobody else's: so the layers below refuse nothing that they are asked for.

// do does d to s.
func do(s *api.Screen, d deed) {
	if x, ok := d.(scroll); ok {
		roll(s, s.Top, int(x))
		return
	}
	s.Cur.Wrap = false
	if x, ok := d.(wipe); ok {
		erase(s, x)
		return
	}
	if x, ok := d.(shift); ok {
		push(s, int(x))
		return
	}
	open(s, int(d.(lines)))
}

// erase makes blanks of the cells that w names.
func erase(s *api.Screen, w wipe) {
	for i := range seen(s).Rows {
		l := line(s, i)
		begin := i * len(l)
		low, high := max(w.low-begin, 0), min(w.high-begin, len(l))
		if low < high {
			x, _ := row.Erase(l, low, high, s.Cur.Attr)
			copy(l, x)
		}
	}
}

// push makes n cells come where the cursor is, or go.
func push(s *api.Screen, n int) {
	l, c := line(s, s.Cur.Row), s.Cur
	var x []api.Cell
	if n < 0 {
		x, _ = row.Delete(l, c.Col, -n, c.Attr)
	} else {
		x, _ = row.Insert(l, c.Col, n, c.Attr)
	}
	copy(l, x)
}

// open makes n rows come where the cursor is, or go, if that is between the margins.
func open(s *api.Screen, n int) {
	if s.Cur.Row < s.Top || s.Cur.Row > s.Bottom {
		return
	}
	roll(s, s.Cur.Row, n)
	s.Cur.Col = 0
}

// roll makes n rows come at top, or go, within the margin below.
func roll(s *api.Screen, top, n int) {
	g, a := seen(s), s.Cur.Attr
	if n < 0 {
		*g, _ = grid.Up(*g, top, s.Bottom, -n, a)
		return
	}
	*g, _ = grid.Down(*g, top, s.Bottom, n, a)
}

// line is row i of the seen grid, in the memory of s.
func line(s *api.Screen, i int) []api.Cell {
	g := seen(s)
	return g.Cells[i*g.Cols : (i+1)*g.Cols]
}

// seen is the grid of s that is seen.
func seen(s *api.Screen) *api.Grid {
	if s.Swapped {
		return &s.Other
	}
	return &s.Main
}
