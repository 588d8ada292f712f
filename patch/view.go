package patch

import (
	"beacon/api"
	"beacon/grid"
	"beacon/screen"
)

// all is the patch that makes v, in v's own memory.
func all(v api.View) api.Patch {
	g := v.Grid
	return api.Patch{Rows: g.Rows, Cols: g.Cols, All: true, Cells: g.Cells, Row: v.Row, Col: v.Col, Modes: v.Modes, Title: v.Title}
}

// made is the view that p makes, being All, in p's own memory.
func made(p api.Patch) api.View {
	g := api.Grid{Rows: p.Rows, Cols: p.Cols, Cells: p.Cells}
	return api.View{Grid: g, Row: p.Row, Col: p.Col, Modes: p.Modes, Title: p.Title}
}

// alike tells whether p and q make views of one size.
func alike(p, q api.Patch) bool {
	return p.Rows == q.Rows && p.Cols == q.Cols
}

// sized tells whether p makes views of a size that may be.
func sized(p api.Patch) bool {
	return in(p.Rows, 1, api.MaxSide) && in(p.Cols, 1, api.MaxSide)
}

// shown tells whether all that p has beside rows may be seen of a screen of its size.
func shown(p api.Patch) bool {
	// A screen knows which modes and titles may be; the least one is asked, for it has the least to check.
	s, _ := screen.New(1, 1)
	s.Modes, s.Title = p.Modes, p.Title
	return in(p.Row, 0, p.Rows-1) && in(p.Col, 0, p.Cols-1) && screen.Check(s) == api.OK
}

// rowsFit tells whether p, being of a size that may be, has the cells of rows that may be, and knows where these are.
func rowsFit(p api.Patch) bool {
	if p.All {
		return len(p.At) == 0 && cellsFit(p, p.Rows)
	}
	return rising(p.At, p.Rows) && cellsFit(p, len(p.At))
}

// cellsFit tells whether p has the cells of n rows.
func cellsFit(p api.Patch, n int) bool {
	if n == 0 {
		return len(p.Cells) == 0
	}
	return grid.Check(api.Grid{Rows: n, Cols: p.Cols, Cells: p.Cells}) == api.OK
}

// rising tells whether each of l is above those ahead of it, and below n.
func rising(l []int, n int) bool {
	low := 0
	for _, i := range l {
		if !in(i, low, n-1) {
			return false
		}
		low = i + 1
	}
	return true
}

// in tells whether n is from low to high.
func in(n, low, high int) bool {
	return low <= n && n <= high
}
