package pack

import (
	"slices"
	"strings"

	"beacon/api"
	"beacon/patch"
)

// The shapes of a patch's parts, but for At, which is as many numbers.
const (
	headShape = "nnnn"   // Rows, Cols, All, how many At
	cellShape = "nnnnnt" // Rune, Wide, Fg, Bg, Flags, Comb
	tailShape = "nnnt"   // Row, Col, Modes, Title
)

// items are those of p, in their order.
func items(p api.Patch) []item {
	l := make([]item, 0, len(headShape)+len(p.At)+len(p.Cells)*len(cellShape)+len(tailShape))
	l = append(l, number(p.Rows), number(p.Cols), truth(p.All), number(len(p.At)))
	for _, i := range p.At {
		l = append(l, number(i))
	}
	for _, c := range p.Cells {
		l = append(l, cellItems(c)...)
	}
	return append(l, number(p.Row), number(p.Col), number(p.Modes), text(p.Title))
}

func truth(b bool) number {
	if b {
		return 1
	}
	return 0
}

// cellItems are those of c; its colours begin at -1, and no number does.
func cellItems(c api.Cell) []item {
	a := c.Attr
	return []item{number(c.Rune), number(c.Wide), number(a.Fg + 1), number(a.Bg + 1), number(a.Flags), text(c.Comb)}
}

// cellOf is the cell whose items l are.
func cellOf(l []item) api.Cell {
	a := api.Attr{Fg: value(l[2]) - 1, Bg: value(l[3]) - 1, Flags: value(l[4])}
	return api.Cell{Rune: value(l[0]), Wide: value(l[1]), Attr: a, Comb: string(l[5].(text))}
}

// value is that of a number.
func value(x item) int {
	return int(x.(number))
}

// read tells the patch of whose items s is made; whether it may be is known of its head alone.
func read(s string) (api.Patch, bool) {
	l, s, ok := itemsOf(s, headShape)
	if !ok {
		return api.Patch{}, false
	}
	all, n := value(l[2]), value(l[3])
	p := api.Patch{Rows: value(l[0]), Cols: value(l[1]), All: all == 1}
	if all > 1 || !fits(p, n) {
		return api.Patch{}, false
	}
	l, s, ok = itemsOf(s, bodyShape(p, n))
	if !ok || s != "" {
		return api.Patch{}, false
	}
	return filled(p, l, n), true
}

// fits tells whether a patch of p's size may be, and may have n rows: ahead of that, nothing is laid out for them.
func fits(p api.Patch, n int) bool {
	return patch.May(api.Patch{Rows: p.Rows, Cols: p.Cols}) == api.OK && n <= p.Rows
}

// bodyShape is the shape of what is behind p's head, where n are At.
func bodyShape(p api.Patch, n int) string {
	rows := n
	if p.All {
		rows = p.Rows
	}
	return strings.Repeat(string(aNumber), n) + strings.Repeat(cellShape, rows*p.Cols) + tailShape
}

// filled is p with the items l behind its head, where n are At.
func filled(p api.Patch, l []item, n int) api.Patch {
	for _, x := range l[:n] {
		p.At = append(p.At, value(x))
	}
	end := len(l) - len(tailShape)
	for c := range slices.Chunk(l[n:end], len(cellShape)) {
		p.Cells = append(p.Cells, cellOf(c))
	}
	l = l[end:]
	p.Row, p.Col, p.Modes, p.Title = value(l[0]), value(l[1]), value(l[2]), string(l[3].(text))
	return p
}
