package patch_test

import (
	"math"
	"reflect"
	"slices"
	"strings"
	"testing"

	"beacon/api"
	"beacon/patch"
)

var (
	plain = api.Attr{Fg: -1, Bg: -1}
	loud  = api.Attr{Fg: 3, Bg: 256 + 1<<24 - 1, Flags: 255}
)

// wide is a rune of width 2.
func wide(r int, a api.Attr) []api.Cell {
	return []api.Cell{{Rune: r, Wide: api.WideFirst, Attr: a}, {Wide: api.WideSecond, Attr: a}}
}

// line is a row that no other seed has: marked runes, and wide ones.
func line(seed, cols int) []api.Cell {
	var l []api.Cell
	for k := seed; len(l) < cols; k++ {
		a := api.Attr{Fg: seed, Bg: len(l) - 1, Flags: k % 256}
		if k%2 == 1 && len(l)+2 <= cols {
			l = append(l, wide('世'+k, a)...)
			continue
		}
		l = append(l, api.Cell{Rune: 'a' + k%26, Comb: "\u0301", Attr: a})
	}
	return l
}

// viewOf is a view whose rows have these seeds; what it has beside them comes of the first one.
func viewOf(cols int, seeds ...int) api.View {
	v := api.View{Grid: api.Grid{Rows: len(seeds), Cols: cols}}
	for _, n := range seeds {
		v.Grid.Cells = append(v.Grid.Cells, line(n, cols)...)
	}
	return beside(v, seeds[0])
}

// beside is v with what is seen of it beside its cells.
func beside(v api.View, seed int) api.View {
	v.Row, v.Col, v.Modes, v.Title = seed%v.Grid.Rows, seed%v.Grid.Cols, seed*37%1024, "té"+string(rune('a'+seed%26))
	return v
}

// seeds are n of them, rising from first.
func seeds(n, first int) []int {
	l := make([]int, n)
	for i := range l {
		l[i] = first + i
	}
	return l
}

// someSizes are small sizes and the edges of what may be.
func someSizes() [][2]int {
	l := [][2]int{{1, api.MaxSide}, {api.MaxSide, 1}, {api.MaxSide, api.MaxSide}}
	for rows := 1; rows <= 4; rows++ {
		for cols := 1; cols <= 4; cols++ {
			l = append(l, [2]int{rows, cols})
		}
	}
	return l
}

// whole is the patch with All that makes v.
func whole(v api.View) api.Patch {
	p := some(v)
	p.All, p.Cells = true, v.Grid.Cells
	return p
}

// some is the patch that has v's rows at at, and all else of v.
func some(v api.View, at ...int) api.Patch {
	p := api.Patch{Rows: v.Grid.Rows, Cols: v.Grid.Cols, At: at, Row: v.Row, Col: v.Col, Modes: v.Modes, Title: v.Title}
	for _, i := range at {
		p.Cells = append(p.Cells, rowOf(v, i)...)
	}
	return p
}

func rowOf(v api.View, i int) []api.Cell {
	return v.Grid.Cells[i*v.Grid.Cols : (i+1)*v.Grid.Cols]
}

// subset are the rows whose bits are in n.
func subset(n, rows int) []int {
	var l []int
	for i := range rows {
		if n>>i&1 == 1 {
			l = append(l, i)
		}
	}
	return l
}

func sameView(a, b api.View) bool {
	cells := slices.Equal(a.Grid.Cells, b.Grid.Cells)
	a.Grid.Cells, b.Grid.Cells = nil, nil
	return cells && reflect.DeepEqual(a, b)
}

func samePatch(a, b api.Patch) bool {
	lists := slices.Equal(a.At, b.At) && slices.Equal(a.Cells, b.Cells)
	a.At, a.Cells, b.At, b.Cells = nil, nil, nil, nil
	return lists && reflect.DeepEqual(a, b)
}

// isView holds an answer against what it should be, and to what may be.
func isView(t *testing.T, got api.View, e api.Errno, want api.View) {
	t.Helper()
	if e != api.OK || !sameView(got, want) || patch.Check(got) != api.OK {
		t.Fatalf("%+v, %v\nnot %+v", got, e, want)
	}
}

// isPatch holds an answer against what it should be, and to what may be.
func isPatch(t *testing.T, got api.Patch, e api.Errno, want api.Patch) {
	t.Helper()
	if e != api.OK || !samePatch(got, want) || patch.May(got) != api.OK {
		t.Fatalf("%+v, %v\nnot %+v", got, e, want)
	}
}

// zeroView holds an answer against an error.
func zeroView(t *testing.T, got api.View, e, want api.Errno) {
	t.Helper()
	if e != want || !reflect.DeepEqual(got, api.View{}) {
		t.Fatalf("%+v, %v, not %v", got, e, want)
	}
}

// zeroPatch holds an answer against an error.
func zeroPatch(t *testing.T, got api.Patch, e, want api.Errno) {
	t.Helper()
	if e != want || !reflect.DeepEqual(got, api.Patch{}) {
		t.Fatalf("%+v, %v, not %v", got, e, want)
	}
}

// mayView holds whether v may be against what all calls tell of it.
func mayView(t *testing.T, v api.View, ok bool) {
	t.Helper()
	if ok {
		p, e := patch.Whole(v)
		isPatch(t, p, e, whole(v))
		x, e := patch.Apply(v, p)
		isView(t, x, e, v)
		return
	}
	if e := patch.Check(v); e != api.ErrForm {
		t.Fatalf("it may not be: %+v, %v", v, e)
	}
	p, e := patch.Whole(v)
	zeroPatch(t, p, e, api.ErrForm)
	// The other one has its size, or another one: both would do, or be told as ErrState, if v could be.
	for _, good := range []api.View{viewOf(3, 1, 2), viewOf(2, 1)} {
		p, e = patch.Between(v, good)
		zeroPatch(t, p, e, api.ErrForm)
		p, e = patch.Between(good, v)
		zeroPatch(t, p, e, api.ErrForm)
		x, e := patch.Apply(v, whole(good))
		zeroView(t, x, e, api.ErrForm)
		x, e = patch.Apply(v, some(good, 0))
		zeroView(t, x, e, api.ErrForm)
	}
}

// mayPatch holds whether p may be against what all calls tell of it.
func mayPatch(t *testing.T, p api.Patch, ok bool) {
	t.Helper()
	if ok {
		q, e := patch.Compose(p, some(viewOf(p.Cols, seeds(p.Rows, 0)...)))
		if patch.May(p) != api.OK || patch.May(q) != api.OK || e != api.OK {
			t.Fatalf("it may be: %+v, %v", p, e)
		}
		return
	}
	if e := patch.May(p); e != api.ErrForm {
		t.Fatalf("it may not be: %+v, %v", p, e)
	}
	for _, good := range []api.View{viewOf(3, 1, 2), viewOf(2, 1)} {
		x, e := patch.Apply(good, p)
		zeroView(t, x, e, api.ErrForm)
		for _, q := range []api.Patch{whole(good), some(good, 0)} {
			y, e := patch.Compose(p, q)
			zeroPatch(t, y, e, api.ErrForm)
			y, e = patch.Compose(q, p)
			zeroPatch(t, y, e, api.ErrForm)
		}
	}
}

// bothMay holds whether what v has beside its cells may be, in views and in patches of both kinds.
func bothMay(t *testing.T, v api.View, ok bool) {
	t.Helper()
	mayView(t, v, ok)
	mayPatch(t, whole(v), ok)
	mayPatch(t, some(v), ok)
	mayPatch(t, some(v, 0), ok)
}

// farNumbers are wrong wherever a small number is asked for, whatever is cut of it.
var farNumbers = []int{math.MinInt, math.MaxInt, -1 << 32, 1 << 32, 1<<32 + 1, -2}

// P16.1: where the cursor may be.
func TestPlaces(t *testing.T) {
	for _, s := range [][2]int{{1, 1}, {1, 3}, {3, 1}, {2, 3}, {api.MaxSide, api.MaxSide}} {
		v := viewOf(s[1], seeds(s[0], 5)...)
		for _, row := range []int{-1, 0, s[0] / 2, s[0] - 1, s[0]} {
			for _, col := range []int{-1, 0, s[1] / 2, s[1] - 1, s[1]} {
				v.Row, v.Col = row, col
				bothMay(t, v, 0 <= row && row < s[0] && 0 <= col && col < s[1])
			}
		}
		for _, n := range farNumbers {
			v.Row, v.Col = n, 0
			bothMay(t, v, false)
			v.Row, v.Col = 0, n
			bothMay(t, v, false)
		}
	}
}

// P16.1: modes.
func TestModes(t *testing.T) {
	v := viewOf(3, 1, 2)
	for n := -2; n <= 1030; n++ {
		v.Modes = n
		bothMay(t, v, 0 <= n && n <= 1023)
	}
	for _, n := range farNumbers {
		v.Modes = n
		bothMay(t, v, false)
	}
}

// P16.1: titles.
func TestTitles(t *testing.T) {
	v := viewOf(3, 1, 2)
	for _, s := range []string{"", " ", "\u007f", "\u0080", "é世", "\U0010ffff", "\ufffd", strings.Repeat("x", api.MaxString), strings.Repeat("é", api.MaxString/2)} {
		v.Title = s
		bothMay(t, v, true)
	}
	for _, s := range []string{"\x00", "\x1f", "a\n", "\xff", "a\xc3", "\x80", "\xed\xa0\x80", "\xc0\x80", "\xf4\x90\x80\x80", strings.Repeat("x", api.MaxString+1), strings.Repeat("é", api.MaxString/2) + "x", strings.Repeat("x", 1<<16)} {
		v.Title = s
		bothMay(t, v, false)
	}
}

// wrongSides are sizes that may not be.
var wrongSides = [][2]int{{0, 0}, {0, 3}, {2, 0}, {-1, 3}, {2, -1}, {-2, -3}, {api.MaxSide + 1, 3}, {2, api.MaxSide + 1}, {1 << 32, 1 << 32}, {1<<32 + 2, 3}, {2, 1<<32 + 3}, {math.MaxInt, 1}, {math.MinInt, 2}, {1, math.MinInt}}

// P16.1: sizes.
func TestSizes(t *testing.T) {
	for _, s := range someSizes() {
		bothMay(t, viewOf(s[1], seeds(s[0], 1)...), true)
	}
	for _, s := range wrongSides {
		var many []api.Cell
		if n := s[0] * s[1]; 0 < n && n < 1000 {
			many = slices.Repeat(line(1, 1), n)
		}
		for _, cells := range [][]api.Cell{nil, line(1, 1), slices.Concat(line(1, 3), line(2, 3)), many} {
			v := api.View{Grid: api.Grid{Rows: s[0], Cols: s[1], Cells: cells}}
			mayView(t, v, false)
			mayPatch(t, whole(v), false)
			mayPatch(t, some(v), false)
			mayPatch(t, api.Patch{Rows: s[0], Cols: s[1], At: []int{0}, Cells: cells}, false)
			mayPatch(t, api.Patch{Rows: s[0], Cols: s[1], At: []int{0, 1}, Cells: cells}, false)
		}
	}
	mayView(t, api.View{}, false)
	mayPatch(t, api.Patch{}, false)
	mayPatch(t, api.Patch{All: true}, false)
}

// wrongCells may not stand in a row of made ones, wherever.
func wrongCells() []api.Cell {
	return []api.Cell{{}, {Rune: '\n', Attr: plain}, {Rune: -1, Attr: plain}, {Rune: 0x301, Attr: plain}, {Rune: '世', Attr: plain}, {Rune: 'x', Wide: api.WideFirst, Attr: plain}, {Rune: 'x', Wide: 3, Attr: plain}, {Rune: 'x', Comb: "x", Attr: plain}, {Rune: 'x', Comb: "\u0301\u0301\u0301", Attr: plain}, {Rune: 'x', Attr: api.Attr{Fg: -2}}, {Rune: 'x', Attr: api.Attr{Flags: 256}}, wide('世', loud)[0], wide('世', loud)[1]}
}

// P16.1: rows that may not be, in each place of views and of patches.
func TestRows(t *testing.T) {
	for i := range 6 {
		for _, c := range wrongCells() {
			v := viewOf(3, 4, 5)
			v.Grid.Cells[i] = c
			mayView(t, v, false)
			mayPatch(t, whole(v), false)
			mayPatch(t, some(v, 0, 1), false)
			mayPatch(t, some(v, i/3), false)
			mayPatch(t, some(v, 1-i/3), true)
		}
	}
	// A wide rune that lies over the end of a row.
	v := viewOf(3, 4, 5)
	copy(v.Grid.Cells[2:], wide('世', plain))
	v.Grid.Cells[4] = api.Cell{Rune: 'x', Attr: plain}
	v.Grid.Cells[1] = api.Cell{Rune: 'x', Attr: plain}
	mayView(t, v, false)
	mayPatch(t, whole(v), false)
	mayPatch(t, some(v, 0, 1), false)
}

// P16.1: how many cells there are.
func TestHowMany(t *testing.T) {
	v := viewOf(3, 1, 2, 3)
	all := slices.Repeat(line(0, 1), 13)
	for n := range all {
		x := v
		x.Grid.Cells = all[:n]
		mayView(t, x, n == 9)
		mayPatch(t, whole(x), n == 9)
		for i := range 8 {
			p := some(v, subset(i, 3)...)
			p.Cells = all[:n]
			mayPatch(t, p, n == 3*len(p.At))
		}
	}
}

// P16.1: which lists of rows may be: all of up to four numbers about those of three rows.
func TestAt(t *testing.T) {
	v := viewOf(2, 1, 2, 3)
	lists := [][]int{nil}
	for n := 0; n < 4; n++ {
		for _, l := range slices.Clone(lists) {
			for i := -1; len(l) == n && i <= 3; i++ {
				lists = append(lists, append(slices.Clone(l), i))
			}
		}
	}
	for _, l := range lists {
		p := some(v)
		p.At, p.Cells = l, slices.Repeat(line(0, 2), len(l))
		ok := slices.ContainsFunc(seeds(8, 0), func(n int) bool { return slices.Equal(l, subset(n, 3)) })
		mayPatch(t, p, ok)
		p.All, p.Cells = true, v.Grid.Cells
		mayPatch(t, p, len(l) == 0)
	}
	for _, n := range append(farNumbers, 3, api.MaxSide, -1) {
		for _, l := range [][]int{{n}, {0, n}, {n, 2}, {0, n, 2}} {
			p := some(v)
			p.At, p.Cells = l, slices.Repeat(line(0, 2), len(l))
			mayPatch(t, p, false)
		}
	}
	// More rows than there are.
	p := some(v)
	p.At, p.Cells = seeds(4, 0), slices.Repeat(line(0, 2), 4)
	mayPatch(t, p, false)
	p.At, p.Cells = make([]int, 1<<16), make([]api.Cell, 1<<17)
	mayPatch(t, p, false)
	// All rows, one by one, are no All.
	big := viewOf(api.MaxSide, seeds(api.MaxSide, 1)...)
	mayPatch(t, some(big, seeds(api.MaxSide, 0)...), true)
}

// P16.1: an At that is empty, but is there, is none.
func TestEmptyLists(t *testing.T) {
	v := viewOf(3, 1, 2)
	p, q := whole(v), some(v)
	p.At, q.At, q.Cells = []int{}, []int{}, []api.Cell{}
	mayPatch(t, p, true)
	mayPatch(t, q, true)
	x, e := patch.Apply(viewOf(3, 1, 5), q)
	isView(t, x, e, beside(viewOf(3, 1, 5), 1))
}

// P16.1: Whole, of all sizes that may be.
func TestWhole(t *testing.T) {
	for rows := 1; rows <= api.MaxSide; rows += 3 {
		for cols := 1; cols <= api.MaxSide; cols += 3 {
			v := viewOf(cols, seeds(rows, rows+cols)...)
			p, e := patch.Whole(v)
			isPatch(t, p, e, whole(v))
		}
	}
}

// turned is v with other rows where n has a bit, and another cursor, other modes, another title if other.
func turned(v api.View, n int, other bool) api.View {
	cols := v.Grid.Cols
	v.Grid.Cells = slices.Clone(v.Grid.Cells)
	for _, i := range subset(n, v.Grid.Rows) {
		copy(v.Grid.Cells[i*cols:], line(100+i, cols))
	}
	if other {
		return beside(v, 7)
	}
	return v
}

// P16.1: Between, of each choice of rows that differ, whatever else does.
func TestBetween(t *testing.T) {
	for rows := 1; rows <= 4; rows++ {
		for cols := 1; cols <= 4; cols++ {
			for n := range 1 << rows {
				for _, other := range []bool{false, true} {
					a := viewOf(cols, seeds(rows, 1)...)
					b := turned(a, n, other)
					p, e := patch.Between(a, b)
					isPatch(t, p, e, some(b, subset(n, rows)...))
					p, e = patch.Between(b, a)
					isPatch(t, p, e, some(a, subset(n, rows)...))
				}
			}
		}
	}
	big := viewOf(api.MaxSide, seeds(api.MaxSide, 1)...)
	p, e := patch.Between(big, turned(big, 1<<api.MaxSide-1, true))
	isPatch(t, p, e, some(turned(big, 1<<api.MaxSide-1, true), seeds(api.MaxSide, 0)...))
	p, e = patch.Between(big, big)
	isPatch(t, p, e, some(big))
}

// P16.1: a row differs wherever any of its cells does, in whatever of it.
func TestBetweenCells(t *testing.T) {
	a := viewOf(4, 1, 2, 3)
	for i := range a.Grid.Cells {
		a.Grid.Cells[i] = api.Cell{Rune: 'x', Comb: "\u0301", Attr: loud}
	}
	for i := range a.Grid.Cells {
		c := a.Grid.Cells[i]
		l := slices.Repeat([]api.Cell{c}, 6)
		l[0].Rune = 'y'
		l[1].Comb = ""
		l[2].Comb = "\u0302"
		l[3].Attr.Fg++
		l[4].Attr.Bg--
		l[5].Attr.Flags--
		for _, x := range l {
			b := a
			b.Grid.Cells = slices.Clone(a.Grid.Cells)
			b.Grid.Cells[i] = x
			p, e := patch.Between(a, b)
			isPatch(t, p, e, some(b, i/4))
		}
		if i%4 < 3 {
			b := a
			b.Grid.Cells = slices.Clone(a.Grid.Cells)
			copy(b.Grid.Cells[i:], wide('世', loud))
			p, e := patch.Between(a, b)
			isPatch(t, p, e, some(b, i/4))
		}
	}
}

// P16.1: rows that are the same, but lie elsewhere, differ.
func TestBetweenMoved(t *testing.T) {
	p, e := patch.Between(viewOf(2, 1, 2, 3, 4), viewOf(2, 1, 3, 2, 4))
	isPatch(t, p, e, some(viewOf(2, 1, 3, 2, 4), 1, 2))
	p, e = patch.Between(viewOf(2, 1, 1, 1), viewOf(2, 1, 2, 1))
	isPatch(t, p, e, some(viewOf(2, 1, 2, 1), 1))
}

// P16.1 to P16.3: all pairs of sizes: Between is Whole of another size; Apply does what is All, and no other.
func TestSizesOfTwo(t *testing.T) {
	for _, s := range someSizes() {
		a := viewOf(s[1], seeds(s[0], 1)...)
		for _, z := range someSizes() {
			b := viewOf(z[1], seeds(z[0], 30)...)
			p, e := patch.Between(a, b)
			if s == z {
				isPatch(t, p, e, some(b, seeds(z[0], 0)...))
			} else {
				isPatch(t, p, e, whole(b))
			}
			x, e := patch.Apply(a, p)
			isView(t, x, e, b)
			for _, q := range []api.Patch{some(b), some(b, 0), some(b, seeds(z[0], 0)...)} {
				x, e := patch.Apply(a, q)
				y, f := patch.Compose(whole(a), q)
				w, g := patch.Compose(some(a, 0), q)
				if s == z {
					isView(t, x, e, applied(a, q))
					isPatch(t, y, f, composed(whole(a), q))
					isPatch(t, w, g, composed(some(a, 0), q))
					continue
				}
				zeroView(t, x, e, api.ErrState)
				zeroPatch(t, y, f, api.ErrState)
				zeroPatch(t, w, g, api.ErrState)
			}
			for _, q := range []api.Patch{whole(a), some(a), some(a, 0)} {
				r, e := patch.Compose(q, whole(b))
				isPatch(t, r, e, whole(b))
			}
		}
	}
}

// applied is what p makes of v, row by row.
func applied(v api.View, p api.Patch) api.View {
	x := api.View{Grid: api.Grid{Rows: p.Rows, Cols: p.Cols, Cells: slices.Clone(v.Grid.Cells)}, Row: p.Row, Col: p.Col, Modes: p.Modes, Title: p.Title}
	if p.All {
		x.Grid.Cells = p.Cells
		return x
	}
	for k, i := range p.At {
		copy(x.Grid.Cells[i*p.Cols:(i+1)*p.Cols], p.Cells[k*p.Cols:])
	}
	return x
}

// composed is p and then q, as the chapter says it, case by case.
func composed(p, q api.Patch) api.Patch {
	if q.All {
		return q
	}
	if p.All {
		return whole(applied(api.View{Grid: api.Grid{Rows: p.Rows, Cols: p.Cols, Cells: p.Cells}}, q))
	}
	r := q
	r.At, r.Cells = nil, nil
	for i := range q.Rows {
		if k := slices.Index(q.At, i); k >= 0 {
			r.At, r.Cells = append(r.At, i), append(r.Cells, q.Cells[k*q.Cols:(k+1)*q.Cols]...)
		} else if k := slices.Index(p.At, i); k >= 0 {
			r.At, r.Cells = append(r.At, i), append(r.Cells, p.Cells[k*p.Cols:(k+1)*p.Cols]...)
		}
	}
	return r
}

// patchesOf are all patches of rows of v, and All.
func patchesOf(v api.View) []api.Patch {
	l := []api.Patch{whole(v)}
	for n := range 1 << v.Grid.Rows {
		l = append(l, some(v, subset(n, v.Grid.Rows)...))
	}
	return l
}

// P16.2, P16.3: all pairs of patches of small views: Apply, Compose, and Apply of that.
func TestApplyCompose(t *testing.T) {
	for rows := 1; rows <= 4; rows++ {
		for cols := 1; cols <= 3; cols++ {
			v := viewOf(cols, seeds(rows, 1)...)
			for _, p := range patchesOf(viewOf(cols, seeds(rows, 50)...)) {
				x, e := patch.Apply(v, p)
				isView(t, x, e, applied(v, p))
				for _, q := range patchesOf(viewOf(cols, seeds(rows, 101)...)) {
					r, e := patch.Compose(p, q)
					isPatch(t, r, e, composed(p, q))
					y, e := patch.Apply(v, r)
					isView(t, y, e, applied(applied(v, p), q))
					z, e := patch.Apply(x, q)
					isView(t, z, e, y)
				}
			}
		}
	}
}

// P16.2: written out.
func TestWrittenOut(t *testing.T) {
	v, a, b := viewOf(4, 1, 2, 3, 4), viewOf(4, 11, 12, 13, 14), viewOf(4, 21, 22, 23, 24)
	x, e := patch.Apply(v, some(a, 1, 3))
	isView(t, x, e, beside(viewOf(4, 1, 12, 3, 14), 11))
	p, e := patch.Compose(some(a, 0, 1), some(b, 1, 3))
	isPatch(t, p, e, some(beside(viewOf(4, 11, 22, 0, 24), 21), 0, 1, 3))
	p, e = patch.Compose(some(a, 3), some(b, 0))
	isPatch(t, p, e, some(beside(viewOf(4, 21, 0, 0, 14), 21), 0, 3))
	p, e = patch.Compose(whole(a), some(b, 2))
	isPatch(t, p, e, whole(beside(viewOf(4, 11, 12, 23, 14), 21)))
	p, e = patch.Compose(some(a, 0, 1), some(b))
	isPatch(t, p, e, some(beside(a, 21), 0, 1))
	p, e = patch.Compose(some(a), some(b))
	isPatch(t, p, e, some(b))
}

// P16.3: what is between two views makes the other one; composed, it leads on.
func TestBetweenLeads(t *testing.T) {
	var l []api.View
	for n := range 16 {
		l = append(l, turned(viewOf(3, 1, 2, 3, 4), n, n%3 == 0))
	}
	l = append(l, viewOf(3, 1, 2, 3), viewOf(4, 1, 2, 3, 4), viewOf(4, 1, 2, 3), viewOf(1, 9))
	for _, a := range l {
		for _, b := range l {
			p, e := patch.Between(a, b)
			x, f := patch.Apply(a, p)
			isView(t, x, max(e, f), b)
			for _, c := range l {
				q, e := patch.Between(b, c)
				r, f := patch.Compose(p, q)
				x, g := patch.Apply(a, r)
				isView(t, x, max(e, f, g), c)
			}
		}
	}
}

// P16.2, R4: what may not be is told ahead of a size that does not fit.
func TestFormAheadOfState(t *testing.T) {
	bad := viewOf(2, 1)
	bad.Modes = -1
	x, e := patch.Apply(bad, some(viewOf(3, 1, 2), 0))
	zeroView(t, x, e, api.ErrForm)
	x, e = patch.Apply(viewOf(3, 1, 2), some(bad))
	zeroView(t, x, e, api.ErrForm)
	p, e := patch.Compose(some(bad), some(viewOf(3, 1, 2)))
	zeroPatch(t, p, e, api.ErrForm)
	p, e = patch.Compose(some(viewOf(3, 1, 2)), some(bad))
	zeroPatch(t, p, e, api.ErrForm)
	p, e = patch.Compose(some(bad), whole(viewOf(3, 1, 2)))
	zeroPatch(t, p, e, api.ErrForm)
}

// A call is one that tells lists, as the patch that has them.
type call func(v api.View, p, q api.Patch) (api.Patch, api.Errno)

func calls() []call {
	of := func(x api.View, e api.Errno) (api.Patch, api.Errno) { return api.Patch{Cells: x.Grid.Cells}, e }
	return []call{
		func(v api.View, p, q api.Patch) (api.Patch, api.Errno) { return patch.Whole(v) },
		func(v api.View, p, q api.Patch) (api.Patch, api.Errno) { return patch.Between(v, v) },
		func(v api.View, p, q api.Patch) (api.Patch, api.Errno) { return patch.Between(viewOf(4, 9, 8, 7), v) },
		func(v api.View, p, q api.Patch) (api.Patch, api.Errno) { return patch.Between(v, viewOf(4, 9, 8, 7)) },
		func(v api.View, p, q api.Patch) (api.Patch, api.Errno) { return patch.Between(viewOf(1, 9), v) },
		func(v api.View, p, q api.Patch) (api.Patch, api.Errno) { return patch.Between(v, viewOf(1, 9)) },
		func(v api.View, p, q api.Patch) (api.Patch, api.Errno) { return of(patch.Apply(v, p)) },
		func(v api.View, p, q api.Patch) (api.Patch, api.Errno) { return of(patch.Apply(v, q)) },
		func(v api.View, p, q api.Patch) (api.Patch, api.Errno) { return of(patch.Apply(v, some(v))) },
		func(v api.View, p, q api.Patch) (api.Patch, api.Errno) { return patch.Compose(p, q) },
		func(v api.View, p, q api.Patch) (api.Patch, api.Errno) { return patch.Compose(q, p) },
		func(v api.View, p, q api.Patch) (api.Patch, api.Errno) { return patch.Compose(p, p) },
		func(v api.View, p, q api.Patch) (api.Patch, api.Errno) { return patch.Compose(q, q) },
		func(v api.View, p, q api.Patch) (api.Patch, api.Errno) { return patch.Compose(p, some(v)) },
		func(v api.View, p, q api.Patch) (api.Patch, api.Errno) { return patch.Compose(some(v), p) },
		func(v api.View, p, q api.Patch) (api.Patch, api.Errno) { return patch.Compose(q, some(v)) },
	}
}

// spoil writes into all of p's lists, their spare room too.
func spoil(p api.Patch) {
	at, cells := p.At[:cap(p.At)], p.Cells[:cap(p.Cells)]
	for i := range at {
		at[i] = 99
	}
	for i := range cells {
		cells[i] = api.Cell{Rune: '!', Attr: loud}
	}
}

// A desk is what calls are handed, with room behind each list.
type desk struct {
	v    api.View
	p, q api.Patch
}

func laid() desk {
	v := viewOf(4, 1, 2, 3)
	d := desk{v, some(viewOf(4, 11, 12, 13), 0, 2), whole(viewOf(4, 21, 22, 23))}
	for _, l := range []*[]api.Cell{&d.v.Grid.Cells, &d.p.Cells, &d.q.Cells} {
		*l = slices.Concat(*l, line(5, 20))[:len(*l)]
	}
	d.p.At = slices.Concat(d.p.At, seeds(20, 7))[:len(d.p.At)]
	return d
}

// lists are all of d's, with the room behind them.
func (d desk) lists() []api.Patch {
	v, p, q := d.v.Grid.Cells, d.p.Cells, d.q.Cells
	return []api.Patch{{Cells: v[:cap(v)]}, {At: d.p.At[:cap(d.p.At)], Cells: p[:cap(p)]}, {Cells: q[:cap(q)]}}
}

// R2: what is handed in stays, the room behind it too, and what was told is nobody else's memory.
func TestOwnMemory(t *testing.T) {
	for i, call := range calls() {
		d := laid()
		x, e := call(d.v, d.p, d.q)
		y, f := call(d.v, d.p, d.q)
		if e != api.OK || f != e || !samePatch(x, y) {
			t.Errorf("%d: %+v, %v, then %+v, %v", i, x, e, y, f)
		}
		kept := y
		kept.At, kept.Cells = slices.Clone(y.At), slices.Clone(y.Cells)
		spoil(x)
		if !reflect.DeepEqual(d, laid()) || !reflect.DeepEqual(d.lists(), laid().lists()) {
			t.Errorf("%d: what was handed in is now %+v", i, d)
		}
		for _, l := range d.lists() {
			spoil(l)
		}
		if !samePatch(y, kept) {
			t.Errorf("%d: what was told is now %+v", i, y)
		}
	}
}
