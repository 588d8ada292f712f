package row

import (
	"slices"

	"beacon/api"
	"beacon/sgr"
	"beacon/width"
)

// maxMarks is how many marks are over a rune at most.
const maxMarks = 2

// A part is what a cell has of its rune: a whole, a first, a second one, or a none.
type part any

type (
	// A whole one has all of a rune of width 1.
	whole struct{ *api.Cell }
	// A first one has the rune of width 2, and its marks.
	first struct{ *api.Cell }
	// A second one has nothing but how its first one looks.
	second struct{ *api.Cell }
	// A none is no cell that may be.
	none struct{}
)

// look tells what c has; of its neighbours it knows nothing.
func look(c *api.Cell) part {
	if n, ok := marks(c.Comb); !ok || n > maxMarks || sgr.Check(c.Attr) != api.OK {
		return none{}
	}
	n := width.Of(c.Rune)
	switch {
	case n == 1 && c.Wide == api.WideNone:
		return whole{c}
	case n == 2 && c.Wide == api.WideFirst:
		return first{c}
	case *c == secondHalf(c.Attr):
		return second{c}
	}
	return none{}
}

// stands tells whether the cell at i may be where it is.
func stands(l []api.Cell, i int) bool {
	p := look(&l[i])
	if f, ok := p.(first); ok {
		return i+1 < len(l) && l[i+1] == secondHalf(f.Attr)
	}
	if _, ok := p.(second); ok {
		// That both look the same is asked of the first one.
		return i > 0 && l[i-1].Wide == api.WideFirst
	}
	_, ok := p.(whole)
	return ok
}

// owner is the cell that has the rune that is seen at at.
func owner(l []api.Cell, at int) *api.Cell {
	if _, ok := look(&l[at]).(second); ok {
		return look(&l[at-1]).(first).Cell
	}
	return &l[at]
}

// cut parts l ahead of at: a wide rune that stands there is mended on both sides.
func cut(l []api.Cell, at int) {
	if at == len(l) {
		return
	}
	if s, ok := look(&l[at]).(second); ok {
		f := look(&l[at-1]).(first)
		*f.Cell, *s.Cell = blank(f.Attr), blank(s.Attr)
	}
}

// replaced is l anew with x for what is from low to below high.
func replaced(l []api.Cell, low, high int, x []api.Cell) []api.Cell {
	l = slices.Clone(l)
	if low == high && len(x) == 0 {
		// Where nothing goes and nothing comes, a wide rune stays.
		return l
	}
	cut(l, low)
	cut(l, high)
	return slices.Concat(l[:low], x, l[high:])
}

// marks tells how many runes s has, if all of them are marks.
func marks(s string) (n int, ok bool) {
	for _, r := range s {
		// Bytes that are no rune's come as 0xfffd, which is no mark.
		if width.Of(int(r)) != 0 {
			return 0, false
		}
		n++
	}
	return n, true
}

// cells are those of r, which has width 1 or 2.
func cells(r int, a api.Attr) []api.Cell {
	if width.Of(r) == 1 {
		return []api.Cell{{Rune: r, Attr: a}}
	}
	return []api.Cell{{Rune: r, Wide: api.WideFirst, Attr: a}, secondHalf(a)}
}

// secondHalf is the cell behind a wide rune's first half.
func secondHalf(a api.Attr) api.Cell {
	return api.Cell{Wide: api.WideSecond, Attr: a}
}

func blank(a api.Attr) api.Cell {
	return api.Cell{Rune: ' ', Attr: api.Attr{Fg: -1, Bg: a.Bg}}
}

func blanks(n int, a api.Attr) []api.Cell {
	return slices.Repeat([]api.Cell{blank(a)}, n)
}
