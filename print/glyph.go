package print

import (
	"beacon/api"
	"beacon/width"
)

// A glyph is what a rune is to the cursor: a none, a mark or a body.
type glyph any

type (
	// A none is not printed.
	none struct{}
	// A mark goes over what is there already.
	mark int
	// A body takes so many cells of its own.
	body struct{ r, cells int }
)

// look tells what r is.
func look(r int) glyph {
	switch n := width.Of(r); n {
	case 0:
		return mark(r)
	case 1, 2:
		return body{r, n}
	}
	return none{}
}

// What the set of lines has instead of the runes from firstDrawn on: each of them takes one cell, too.
const (
	firstDrawn = 0x60
	drawn      = "◆▒␉␌␍␊°±␤␋┘┐┌└┼⎺⎻─⎼⎽├┤┴┬│≤≥π≠£·"
)

// shown is what c's set has for r.
func shown(c api.Cursor, r int) int {
	if set(c) != api.SetLines {
		return r
	}
	at := firstDrawn
	for _, x := range drawn {
		if at == r {
			return int(x)
		}
		at++
	}
	return r
}

// set is the one that c is shifted to.
func set(c api.Cursor) int {
	if c.Shift == 0 {
		return c.G0
	}
	return c.G1
}
