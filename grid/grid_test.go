package grid_test

import (
	"math"
	"reflect"
	"slices"
	"testing"

	"beacon/api"
	"beacon/grid"
)

const lastColour = 256 + 1<<24 - 1

func at(fg, bg, flags int) api.Attr { return api.Attr{Fg: fg, Bg: bg, Flags: flags} }

var (
	plain = at(-1, -1, 0)
	loud  = at(lastColour, 200, 255)
)

func whole(r int, comb string, a api.Attr) api.Cell { return api.Cell{Rune: r, Comb: comb, Attr: a} }

func wide(r int, comb string, a api.Attr) []api.Cell {
	return []api.Cell{{Rune: r, Comb: comb, Wide: api.WideFirst, Attr: a}, {Wide: api.WideSecond, Attr: a}}
}

func blank(bg int) api.Cell { return api.Cell{Rune: ' ', Attr: at(-1, bg, 0)} }

func blanks(n, bg int) []api.Cell { return slices.Repeat([]api.Cell{blank(bg)}, n) }

// of is a grid of rows that are equally long.
func of(rows ...[]api.Cell) api.Grid {
	return api.Grid{Rows: len(rows), Cols: len(rows[0]), Cells: slices.Concat(rows...)}
}

// rowOf is row i of g, in memory of its own.
func rowOf(g api.Grid, i int) []api.Cell { return slices.Clone(g.Cells[i*g.Cols : (i+1)*g.Cols]) }

func copied(g api.Grid) api.Grid {
	g.Cells = slices.Clone(g.Cells)
	return g
}

func same(a, b api.Grid) bool {
	return a.Rows == b.Rows && a.Cols == b.Cols && slices.Equal(a.Cells, b.Cells)
}

// line is row i of those that made makes: marked runes, wide ones and blanks, each one of a look of its own.
func line(i, cols int) []api.Cell {
	var l []api.Cell
	for k := i % 3; len(l) < cols; k++ {
		a := at(i, 100+len(l), k%256)
		switch {
		case k%3 == 0:
			l = append(l, whole('a'+i%26, "\u0301", a))
		case k%3 == 1 && len(l)+2 <= cols:
			l = append(l, wide('世'+i, "\u0302\u0303", a)...)
		default:
			l = append(l, blank(100+len(l)))
		}
	}
	return l
}

// made is a grid whose rows differ.
func made(rows, cols int) api.Grid {
	var l [][]api.Cell
	for i := range rows {
		l = append(l, line(i, cols))
	}
	return of(l...)
}

// someSizes are small sizes and the edges of what may be.
func someSizes() [][2]int {
	l := [][2]int{{1, api.MaxSide}, {api.MaxSide, 1}, {api.MaxSide, api.MaxSide}}
	for rows := 1; rows <= 5; rows++ {
		for cols := 1; cols <= 6; cols++ {
			l = append(l, [2]int{rows, cols})
		}
	}
	return l
}

var wrongSides = [][2]int{{0, 1}, {1, 0}, {0, 0}, {-1, 1}, {1, -1}, {-1, -1}, {api.MaxSide + 1, 1}, {1, api.MaxSide + 1}, {1 << 32, 1 << 32}, {1<<32 + 1, 1<<32 + 1}, {math.MaxInt, 1}, {1, math.MinInt}}

var wrongAttrs = []api.Attr{at(-2, -1, 0), at(-1, -2, 0), at(lastColour+1, 0, 0), at(0, lastColour+1, 0), at(0, 0, -1), at(0, 0, 256), at(math.MinInt, math.MaxInt, math.MaxInt)}

// wrongRows are rows of three cells that may not be.
func wrongRows() [][]api.Cell {
	w, x := wide('世', "", plain), whole('x', "", plain)
	return [][]api.Cell{
		{x, x, {}}, {x, x, w[0]}, {w[1], x, x}, {w[0], x, x}, {x, w[1], x}, {w[0], wide('世', "", loud)[1], x},
		{whole('\n', "", plain), x, x}, {x, whole('世', "", plain), x}, {x, x, whole('x', "x", plain)}, {whole('x', "\u0301\u0301\u0301", plain), x, x}, {x, whole('x', "", wrongAttrs[0]), x},
	}
}

// wrongGrids are grids that may not be.
func wrongGrids() []api.Grid {
	cells := made(2, 3).Cells
	l := []api.Grid{{}, {Rows: 2, Cols: 3}, {Rows: 3, Cols: 3, Cells: cells}, {Rows: 1, Cols: 3, Cells: cells}, {Rows: 2, Cols: 4, Cells: cells}, {Rows: 2, Cols: 2, Cells: cells}, {Rows: 2, Cols: 3, Cells: cells[:5]}, {Rows: 2, Cols: 3, Cells: slices.Concat(cells, blanks(1, 0))}}
	l = append(l, api.Grid{Rows: -2, Cols: -3, Cells: cells}, api.Grid{Rows: 0, Cols: 3}, api.Grid{Rows: 3, Cols: 0}, api.Grid{Rows: 1 << 32, Cols: 1 << 32}, api.Grid{Rows: math.MinInt, Cols: 2})
	l = append(l, of(slices.Repeat([][]api.Cell{blanks(1, 0)}, api.MaxSide+1)...), of(blanks(api.MaxSide+1, 0)))
	for _, r := range wrongRows() {
		l = append(l, of(r), of(r, line(1, 3), line(2, 3)), of(line(0, 3), r, line(2, 3)), of(line(0, 3), line(1, 3), r))
	}
	// A wide rune that lies over the end of a row, so that all cells together would be a row.
	w := wide('世', "", plain)
	return append(l, of(append(blanks(2, -1), w[0]), append(w[1:2:2], blanks(2, -1)...)))
}

// is holds an answer against what it should be, and to what may be.
func is(t *testing.T, got api.Grid, e api.Errno, want api.Grid) {
	t.Helper()
	if e != api.OK || !same(got, want) {
		t.Fatalf("%+v, %v\nnot %+v", got, e, want)
	}
	if grid.Check(got) != api.OK {
		t.Fatalf("it may not be: %+v", got)
	}
}

// refused holds an answer against an error.
func refused(t *testing.T, got api.Grid, e, want api.Errno) {
	t.Helper()
	if got.Rows != 0 || got.Cols != 0 || len(got.Cells) != 0 || e != want {
		t.Errorf("%+v, %v, not %v", got, e, want)
	}
}

// P6.1: Check.
func TestCheck(t *testing.T) {
	for _, s := range someSizes() {
		if e := grid.Check(made(s[0], s[1])); e != api.OK {
			t.Errorf("%v: %v", s, e)
		}
	}
	for i, g := range wrongGrids() {
		was := copied(g)
		if e := grid.Check(g); e != api.ErrForm {
			t.Errorf("%d: %v", i, e)
		}
		if !same(g, was) {
			t.Errorf("%d: it is now %+v", i, g)
		}
	}
}

// P6.1: New.
func TestNew(t *testing.T) {
	for _, a := range []api.Attr{plain, loud, at(5, 0, 1), at(-1, lastColour, 0)} {
		for rows := 1; rows <= api.MaxSide; rows++ {
			for cols := 1; cols <= api.MaxSide; cols++ {
				g, e := grid.New(rows, cols, a)
				is(t, g, e, api.Grid{Rows: rows, Cols: cols, Cells: blanks(rows*cols, a.Bg)})
			}
		}
	}
	for _, s := range wrongSides {
		g, e := grid.New(s[0], s[1], plain)
		refused(t, g, e, api.ErrForm)
	}
	for _, a := range wrongAttrs {
		g, e := grid.New(2, 3, a)
		refused(t, g, e, api.ErrForm)
	}
}

// P6.1: Row tells each row; With puts each row in, and changes no other.
func TestRowWith(t *testing.T) {
	for _, s := range someSizes() {
		g := made(s[0], s[1])
		for i := range g.Rows {
			l, e := grid.Row(g, i)
			if e != api.OK || !slices.Equal(l, line(i, g.Cols)) {
				t.Fatalf("%v, %d: %+v, %v", s, i, l, e)
			}
			for _, l := range [][]api.Cell{blanks(g.Cols, 7), line(i+1, g.Cols), line(i, g.Cols)} {
				want := copied(g)
				copy(want.Cells[i*g.Cols:], l)
				x, e := grid.With(g, i, l)
				is(t, x, e, want)
			}
		}
	}
}

// P6.1: wrong input of Row and With; ErrForm, of the row too, is ahead of ErrNone.
func TestRowWithWrong(t *testing.T) {
	none := []int{-1, 2, 3, math.MinInt, math.MaxInt, 1 << 32, 1<<32 + 1}
	row := func(g api.Grid, i int, want api.Errno) {
		t.Helper()
		if l, e := grid.Row(g, i); len(l) != 0 || e != want {
			t.Errorf("%+v, %d: %+v, %v, not %v", g, i, l, e, want)
		}
	}
	with := func(g api.Grid, i int, l []api.Cell, want api.Errno) {
		t.Helper()
		x, e := grid.With(g, i, l)
		refused(t, x, e, want)
	}
	g := made(2, 3)
	for _, i := range none {
		row(g, i, api.ErrNone)
		with(g, i, line(0, 3), api.ErrNone)
	}
	for _, i := range append(none, 0, 1) {
		for _, l := range append(wrongRows(), nil, []api.Cell{}, line(0, 2), line(0, 4), line(0, 6), blanks(api.MaxSide+1, 0)) {
			with(g, i, l, api.ErrForm)
		}
		for _, w := range wrongGrids() {
			row(w, i, api.ErrForm)
			with(w, i, line(0, 3), api.ErrForm)
		}
	}
}

// moved is g with its rows from top to bottom n lower, higher where n is below 0: each row is sought where it was.
func moved(g api.Grid, top, bottom, n, bg int) api.Grid {
	var l [][]api.Cell
	for i := range g.Rows {
		from := i
		if top <= i && i <= bottom {
			from = i - n
		}
		switch {
		case from == i:
			l = append(l, rowOf(g, i))
		case top <= from && from <= bottom:
			l = append(l, rowOf(g, from))
		default:
			l = append(l, blanks(g.Cols, bg))
		}
	}
	return of(l...)
}

// spans are all from a top to a bottom of so many rows, or some of many.
func spans(rows int) [][2]int {
	var l [][2]int
	for top := range rows {
		for bottom := top; bottom < rows; bottom++ {
			if rows < 10 || top%13 == 0 && (rows-1-bottom)%13 == 0 {
				l = append(l, [2]int{top, bottom})
			}
		}
	}
	return l
}

// counts are how many rows Up and Down are asked for of a span of n.
func counts(n int) []int {
	l := []int{api.MaxValue - 1, api.MaxValue}
	for i := range n + 3 {
		l = append(l, i)
	}
	return l
}

// P6.2: all spans and counts of grids of many sizes.
func TestUpDown(t *testing.T) {
	for _, s := range someSizes() {
		g := made(s[0], s[1])
		for _, p := range spans(g.Rows) {
			for _, n := range counts(p[1] - p[0] + 1) {
				x, e := grid.Up(g, p[0], p[1], n, loud)
				is(t, x, e, moved(g, p[0], p[1], -n, loud.Bg))
				x, e = grid.Down(g, p[0], p[1], n, loud)
				is(t, x, e, moved(g, p[0], p[1], n, loud.Bg))
			}
		}
	}
}

// P6.2: written out: which rows move, and what the blank ones look like.
func TestMovesWrittenOut(t *testing.T) {
	a, b, c, d := line(0, 4), line(1, 4), line(2, 4), line(3, 4)
	g := of(a, b, c, d)
	k, p := blanks(4, 200), blanks(4, -1)
	up := func(top, bottom, n int, look api.Attr, want ...[]api.Cell) {
		t.Helper()
		x, e := grid.Up(g, top, bottom, n, look)
		is(t, x, e, of(want...))
	}
	down := func(top, bottom, n int, look api.Attr, want ...[]api.Cell) {
		t.Helper()
		x, e := grid.Down(g, top, bottom, n, look)
		is(t, x, e, of(want...))
	}
	up(0, 3, 1, loud, b, c, d, k)
	up(1, 2, 1, loud, a, c, k, d)
	up(1, 3, 2, plain, a, d, p, p)
	up(0, 1, 2, loud, k, k, c, d)
	up(2, 2, api.MaxValue, loud, a, b, k, d)
	up(1, 3, 0, loud, a, b, c, d)
	down(0, 3, 1, loud, k, a, b, c)
	down(1, 2, 1, loud, a, k, b, d)
	down(1, 3, 2, plain, a, p, p, b)
	down(0, 1, 2, loud, k, k, c, d)
	down(2, 2, api.MaxValue, loud, a, b, k, d)
	down(1, 3, 0, loud, a, b, c, d)
}

// P6.2: wrong input of Up and Down, of no rows too.
func TestUpDownWrong(t *testing.T) {
	move := func(g api.Grid, top, bottom, n int, a api.Attr) {
		t.Helper()
		x, e := grid.Up(g, top, bottom, n, a)
		refused(t, x, e, api.ErrForm)
		x, e = grid.Down(g, top, bottom, n, a)
		refused(t, x, e, api.ErrForm)
	}
	g := made(3, 2)
	for _, p := range [][2]int{{-1, 0}, {-1, -1}, {0, -1}, {1, 0}, {2, 1}, {0, 3}, {3, 3}, {3, 2}, {math.MinInt, 0}, {0, math.MaxInt}, {math.MinInt, math.MaxInt}, {1 << 32, 1 << 32}, {0, 1<<32 + 1}} {
		move(g, p[0], p[1], 0, plain)
		move(g, p[0], p[1], 1, plain)
		move(g, p[0], p[1], api.MaxValue, plain)
	}
	for _, n := range []int{-1, api.MaxValue + 1, math.MinInt, math.MaxInt, 1 << 32, 1<<32 + 1} {
		move(g, 0, 2, n, plain)
		move(g, 1, 1, n, plain)
	}
	for _, a := range wrongAttrs {
		move(g, 0, 2, 0, a)
		move(g, 0, 2, 1, a)
	}
	for _, g := range wrongGrids() {
		move(g, 0, 0, 0, plain)
		move(g, 0, 1, 1, plain)
	}
}

// resized is g with rows and cols, cell by cell.
func resized(g api.Grid, rows, cols, bg int) api.Grid {
	x := api.Grid{Rows: rows, Cols: cols}
	for i := range rows {
		for k := range cols {
			if i >= g.Rows || k >= g.Cols {
				x.Cells = append(x.Cells, blank(bg))
				continue
			}
			c := g.Cells[i*g.Cols+k]
			if c.Wide == api.WideFirst && k == cols-1 {
				c = blank(c.Attr.Bg)
			}
			x.Cells = append(x.Cells, c)
		}
	}
	return x
}

// P6.3: from each of many sizes to each of them.
func TestResize(t *testing.T) {
	for _, s := range someSizes() {
		g := made(s[0], s[1])
		for _, z := range someSizes() {
			x, e := grid.Resize(g, z[0], z[1], loud)
			is(t, x, e, resized(g, z[0], z[1], loud.Bg))
		}
		x, e := grid.Resize(g, g.Rows, g.Cols, loud)
		is(t, x, e, g)
	}
}

// P6.3: written out: a half that is alone keeps its own ground, what is new has the ground that was handed in.
func TestResizeWrittenOut(t *testing.T) {
	a, b := at(1, 2, 3), at(4, 5, 6)
	x, w, v := whole('x', "\u0301", a), wide('世', "\u0301", a), wide('界', "\u0302", b)
	g := of(slices.Concat(w, v), []api.Cell{x, w[0], w[1], x})
	resize := func(rows, cols int, look api.Attr, want ...[]api.Cell) {
		t.Helper()
		y, e := grid.Resize(g, rows, cols, look)
		is(t, y, e, of(want...))
	}
	resize(2, 3, loud, []api.Cell{w[0], w[1], blank(5)}, []api.Cell{x, w[0], w[1]})
	resize(2, 2, loud, w, []api.Cell{x, blank(2)})
	resize(1, 1, loud, blanks(1, 2))
	resize(3, 5, loud, slices.Concat(w, v, blanks(1, 200)), []api.Cell{x, w[0], w[1], x, blank(200)}, blanks(5, 200))
	resize(3, 1, plain, blanks(1, 2), []api.Cell{x}, blanks(1, -1))
	resize(1, 5, plain, slices.Concat(w, v, blanks(1, -1)))
}

// P6.3: wrong input of Resize.
func TestResizeWrong(t *testing.T) {
	resize := func(g api.Grid, rows, cols int, a api.Attr) {
		t.Helper()
		x, e := grid.Resize(g, rows, cols, a)
		refused(t, x, e, api.ErrForm)
	}
	g := made(2, 3)
	for _, s := range wrongSides {
		resize(g, s[0], s[1], plain)
	}
	for _, a := range wrongAttrs {
		resize(g, 2, 3, a)
		resize(g, 1, 1, a)
		resize(g, 3, 4, a)
	}
	for _, w := range wrongGrids() {
		resize(w, 1, 1, plain)
		resize(w, 2, 3, plain)
	}
}

// P6.4: what went up comes down again, and the other way round; only what is gone is blank.
func TestUndo(t *testing.T) {
	for _, s := range someSizes() {
		g := made(s[0], s[1])
		for _, p := range spans(g.Rows) {
			for _, n := range counts(p[1] - p[0] + 1) {
				gone := min(n, p[1]-p[0]+1)
				want := copied(g)
				copy(want.Cells[p[0]*g.Cols:], blanks(gone*g.Cols, loud.Bg))
				x, e := grid.Up(g, p[0], p[1], n, plain)
				y, f := grid.Down(x, p[0], p[1], n, loud)
				is(t, y, max(e, f), want)
				want = copied(g)
				copy(want.Cells[(p[1]+1-gone)*g.Cols:], blanks(gone*g.Cols, loud.Bg))
				x, e = grid.Down(g, p[0], p[1], n, plain)
				y, f = grid.Up(x, p[0], p[1], n, loud)
				is(t, y, max(e, f), want)
			}
		}
	}
}

// calls are those that tell cells, some of them where nothing changes.
var calls = []func(g api.Grid) (api.Grid, api.Errno){
	func(g api.Grid) (api.Grid, api.Errno) { return grid.New(g.Rows, g.Cols, loud) },
	func(g api.Grid) (api.Grid, api.Errno) {
		l, e := grid.Row(g, 1)
		return api.Grid{Cells: l}, e
	},
	func(g api.Grid) (api.Grid, api.Errno) { return grid.With(g, 1, g.Cells[:g.Cols]) },
	func(g api.Grid) (api.Grid, api.Errno) { return grid.With(g, 1, g.Cells[g.Cols:2*g.Cols]) },
	func(g api.Grid) (api.Grid, api.Errno) { return grid.Up(g, 0, 1, 1, loud) },
	func(g api.Grid) (api.Grid, api.Errno) { return grid.Up(g, 0, 2, 0, loud) },
	func(g api.Grid) (api.Grid, api.Errno) { return grid.Down(g, 1, 2, 1, loud) },
	func(g api.Grid) (api.Grid, api.Errno) { return grid.Down(g, 0, 2, 0, loud) },
	func(g api.Grid) (api.Grid, api.Errno) { return grid.Resize(g, g.Rows, g.Cols, loud) },
	func(g api.Grid) (api.Grid, api.Errno) { return grid.Resize(g, g.Rows-1, g.Cols-1, loud) },
	func(g api.Grid) (api.Grid, api.Errno) { return grid.Resize(g, g.Rows-1, g.Cols, loud) },
	func(g api.Grid) (api.Grid, api.Errno) { return grid.Resize(g, g.Rows+1, g.Cols+1, loud) },
}

// spoil writes into all of l, its spare room too.
func spoil(l []api.Cell) {
	l = l[:cap(l)]
	for i := range l {
		l[i] = whole('!', "", loud)
	}
}

// R2: what is handed in stays, the room behind it too, and what was told is nobody else's memory.
func TestOwnMemory(t *testing.T) {
	given := slices.Concat(made(3, 4).Cells, blanks(20, 9))
	for i, call := range calls {
		room := slices.Clone(given)
		g := api.Grid{Rows: 3, Cols: 4, Cells: room[:12]}
		x, e := call(g)
		y, f := call(g)
		if e != api.OK || f != e || !same(x, y) {
			t.Errorf("%d: %+v, %v, then %+v, %v", i, x, e, y, f)
		}
		kept := copied(y)
		spoil(x.Cells)
		if !slices.Equal(room, given) {
			t.Errorf("%d: what was handed in is now %+v", i, room)
		}
		spoil(room)
		if !same(y, kept) {
			t.Errorf("%d: what was told is now %+v", i, y)
		}
	}
}

// R2: a row that was put in may be written into behind that.
func TestWithOwnMemory(t *testing.T) {
	g, l := made(3, 4), blanks(4, 7)
	x, e := grid.With(g, 1, l[:4:4])
	want := copied(x)
	spoil(l)
	is(t, x, e, want)
	spoil(x.Cells)
	if !slices.Equal(l, slices.Repeat([]api.Cell{whole('!', "", loud)}, 4)) || !same(g, made(3, 4)) {
		t.Errorf("%+v, %+v", l, g)
	}
}

// R4: beside an error everything is the zero value.
func TestZeroBesideErrors(t *testing.T) {
	g := made(2, 3)
	a, e := grid.New(0, 1, plain)
	b, f := grid.With(g, 2, line(0, 3))
	c, h := grid.Up(g, 0, 2, 1, plain)
	d, k := grid.Down(g, 0, 2, 1, plain)
	r, m := grid.Resize(g, 0, 0, plain)
	for i, x := range []api.Grid{a, b, c, d, r} {
		if !reflect.DeepEqual(x, api.Grid{}) {
			t.Errorf("%d: %+v", i, x)
		}
	}
	if !slices.Equal([]api.Errno{e, f, h, k, m}, []api.Errno{api.ErrForm, api.ErrNone, api.ErrForm, api.ErrForm, api.ErrForm}) {
		t.Errorf("%v, %v, %v, %v, %v", e, f, h, k, m)
	}
	if l, e := grid.Row(g, 2); l != nil || e != api.ErrNone {
		t.Errorf("%+v, %v", l, e)
	}
}
