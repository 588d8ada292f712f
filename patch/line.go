package patch

import (
	"slices"

	"beacon/api"
)

// A line is what a patch does to a row: a told or a same one.
type line any

type (
	// A told one has the cells that the row has then.
	told []api.Cell
	// A same one lets the row be.
	same struct{}
)

// lines are what p does to each row, in p's own memory.
func lines(p api.Patch) []line {
	l := slices.Repeat([]line{same{}}, p.Rows)
	at := rows(p)
	for c := range slices.Chunk(p.Cells, p.Cols) {
		l[at[0]], at = told(c), at[1:]
	}
	return l
}

// rows are those of which p tells cells.
func rows(p api.Patch) []int {
	if !p.All {
		return p.At
	}
	l := make([]int, p.Rows)
	for i := range l {
		l[i] = i
	}
	return l
}

// changed is l with a same line wherever from has just these cells; both tell all.
func changed(from, l []line) []line {
	for i, x := range from {
		if slices.Equal(x.(told), l[i].(told)) {
			l[i] = same{}
		}
	}
	return l
}

// over is l with lines of under where its own are same ones; where it has none, under may have another size.
func over(under, l []line) []line {
	for i, x := range l {
		if _, ok := x.(same); ok {
			l[i] = under[i]
		}
	}
	return l
}

// with is p with l for its lines, in memory of its own.
func with(p api.Patch, l []line) api.Patch {
	p.At, p.Cells = nil, nil
	for i, x := range l {
		c, ok := x.(told)
		if !ok {
			continue
		}
		p.Cells = append(p.Cells, c...)
		if !p.All {
			p.At = append(p.At, i)
		}
	}
	return p
}
