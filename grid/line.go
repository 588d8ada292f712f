package grid

import (
	"slices"

	"beacon/api"
	"beacon/row"
)

// A line is what a row is made of: a kept or an empty one.
type line any

type (
	// A kept one has the cells of a row that was there.
	kept []api.Cell
	// An empty one becomes blanks with the Bg of its look.
	empty struct{ look api.Attr }
)

// lines are the rows of g: all of them kept, in g's own memory.
func lines(g api.Grid) []line {
	l := make([]line, 0, g.Rows)
	for c := range slices.Chunk(g.Cells, g.Cols) {
		l = append(l, kept(c))
	}
	return l
}

// empties are n empty lines.
func empties(n int, a api.Attr) []line {
	return slices.Repeat([]line{empty{a}}, n)
}

// laid is the grid that has l for rows, in memory of its own; each of l that is kept has cols cells.
func laid(l []line, cols int) api.Grid {
	g := api.Grid{Rows: len(l), Cols: cols, Cells: make([]api.Cell, 0, len(l)*cols)}
	for _, x := range l {
		g.Cells = append(g.Cells, cells(x, cols)...)
	}
	return g
}

// cells are those of l, cols of them.
func cells(l line, cols int) []api.Cell {
	if k, ok := l.(kept); ok {
		return k
	}
	return blanks(cols, l.(empty).look)
}

// fitted is k cut ahead of cols, or with blanks behind up to there.
func fitted(k kept, cols int, a api.Attr) kept {
	if cols > len(k) {
		return slices.Concat(k, blanks(cols-len(k), a))
	}
	// What goes is erased first, so that row mends the half that stays.
	l, _ := row.Erase(k, cols, len(k), a)
	return l[:cols]
}

// blanks are n cells, at least one, where a may be.
func blanks(n int, a api.Attr) []api.Cell {
	l, _ := row.Blank(n, a)
	return l
}
