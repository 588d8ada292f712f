package screen

import (
	"unicode/utf8"

	"beacon/api"
	"beacon/grid"
	"beacon/tabs"
)

// allModes is every mode at once.
const allModes = api.ModeFocus<<1 - 1

// A part is what a screen is made of: a grid or a cursor, as package api has them, or one of these.
type part any

type (
	// Margins are the first and the last of the rows that move.
	margins struct{ top, bottom int }
	// Stops are where tabs stop.
	stops []bool
	// Modes are flags.
	modes int
	// A title is the whole screen's name.
	title string
	// A last one is the rune that was printed last.
	last int
)

// parts are all of s but its Swapped, which may be either.
func parts(s api.Screen) []part {
	return []part{
		s.Main, s.Other,
		s.Cur, s.Saved, s.SavedToo,
		margins{s.Top, s.Bottom}, stops(s.Tabs), modes(s.Modes), title(s.Title), last(s.Last),
	}
}

// fits tells whether p may be a part of a screen that has rows and cols.
func fits(p part, rows, cols int) bool {
	if g, ok := p.(api.Grid); ok {
		return g.Rows == rows && g.Cols == cols && grid.Check(g) == api.OK
	}
	if c, ok := p.(api.Cursor); ok {
		return cursorFits(c, rows, cols)
	}
	if m, ok := p.(margins); ok {
		return marginsFit(m, rows)
	}
	if l, ok := p.(stops); ok {
		return len(l) == cols && tabs.Check(l) == api.OK
	}
	if m, ok := p.(modes); ok {
		return in(int(m), 0, allModes)
	}
	if t, ok := p.(title); ok {
		return titleFits(string(t))
	}
	return lastFits(int(p.(last)))
}

func cursorFits(c api.Cursor, rows, cols int) bool {
	within := in(c.Row, 0, rows-1) && in(c.Col, 0, cols-1) && (!c.Wrap || c.Col == cols-1)
	return within && isSet(c.G0) && isSet(c.G1) && in(c.Shift, 0, 1) && rowFits(api.Cell{Rune: ' ', Attr: c.Attr})
}

// isSet tells whether n is a character set.
func isSet(n int) bool {
	return n == api.SetPlain || n == api.SetLines
}

func marginsFit(m margins, rows int) bool {
	if rows == 1 {
		return m == margins{}
	}
	return 0 <= m.top && m.top < m.bottom && m.bottom < rows
}

func titleFits(s string) bool {
	if len(s) > api.MaxString || !utf8.ValidString(s) {
		return false
	}
	for _, r := range s {
		if r < ' ' {
			return false
		}
	}
	return true
}

// lastFits tells whether r may have been printed; 0 tells that nothing was.
func lastFits(r int) bool {
	return r == 0 || rowFits(api.Cell{Rune: r}) || rowFits(api.Cell{Rune: r, Wide: api.WideFirst}, api.Cell{Wide: api.WideSecond})
}

// rowFits tells whether l may be a row, so that what a rune may be and how it may look is said by the layers below alone.
func rowFits(l ...api.Cell) bool {
	return grid.Check(api.Grid{Rows: 1, Cols: len(l), Cells: l}) == api.OK
}

// in tells whether n is from low to high.
func in(n, low, high int) bool {
	return low <= n && n <= high
}
