package screen_test

import (
	"math"
	"reflect"
	"slices"
	"strings"
	"testing"

	"beacon/api"
	"beacon/grid"
	"beacon/screen"
	"beacon/sgr"
	"beacon/tabs"
	"beacon/width"
)

var (
	plain = api.Attr{Fg: -1, Bg: -1}
	loud  = api.Attr{Fg: 3, Bg: 256 + 1<<24 - 1, Flags: 255}
)

func blanks(n int) []api.Cell {
	return slices.Repeat([]api.Cell{{Rune: ' ', Attr: plain}}, n)
}

// wide is a rune of width 2.
func wide(r int, a api.Attr) []api.Cell {
	return []api.Cell{{Rune: r, Wide: api.WideFirst, Attr: a}, {Wide: api.WideSecond, Attr: a}}
}

// line is row i of some cells: marked runes, and wide ones.
func line(i, cols int) []api.Cell {
	var l []api.Cell
	for k := i; len(l) < cols; k++ {
		a := api.Attr{Fg: k % 256, Bg: len(l) - 1, Flags: (i + k) % 256}
		if k%2 == 1 && len(l)+2 <= cols {
			l = append(l, wide('世'+k, a)...)
			continue
		}
		l = append(l, api.Cell{Rune: 'a' + k%26, Comb: "\u0301", Attr: a})
	}
	return l
}

// gridOf is a grid whose rows differ, and differ from those of another first.
func gridOf(rows, cols, first int) api.Grid {
	g := api.Grid{Rows: rows, Cols: cols}
	for i := range rows {
		g.Cells = append(g.Cells, line(first+i, cols)...)
	}
	return g
}

// made is a screen of which hardly anything is as New tells it, where there is room for that.
func made(rows, cols int) api.Screen {
	s := api.Screen{
		Main: gridOf(rows, cols, 0), Other: gridOf(rows, cols, 50), Swapped: true,
		Cur:      api.Cursor{Row: rows - 1, Col: cols - 1, Wrap: true, Attr: loud, G0: api.SetLines, Shift: 1, Origin: true},
		Saved:    api.Cursor{Row: rows / 2, Col: cols / 2, Attr: plain, G1: api.SetLines},
		SavedToo: api.Cursor{Row: 0, Col: cols - 1, Wrap: true, Attr: loud, G0: api.SetLines, G1: api.SetLines, Origin: true},
		Tabs:     slices.Repeat([]bool{true, false, false}, cols)[:cols],
		Modes:    1023, Title: "té\u007f世", Last: '世',
	}
	s.Bottom = rows - 1
	if rows > 3 {
		s.Top, s.Bottom = 1, rows-2
	}
	return s
}

func fresh(t *testing.T, rows, cols int) api.Screen {
	t.Helper()
	s, e := screen.New(rows, cols)
	if e != api.OK {
		t.Fatalf("New(%d, %d): %v", rows, cols, e)
	}
	return s
}

// copied is s in memory of its own.
func copied(s api.Screen) api.Screen {
	s.Main.Cells, s.Other.Cells, s.Tabs = slices.Clone(s.Main.Cells), slices.Clone(s.Other.Cells), slices.Clone(s.Tabs)
	return s
}

// is holds an answer against what it should be, and to what may be.
func is(t *testing.T, got api.Screen, e api.Errno, want api.Screen) {
	t.Helper()
	if e != api.OK || !reflect.DeepEqual(got, want) {
		t.Fatalf("%+v, %v\nnot %+v", got, e, want)
	}
	if screen.Check(got) != api.OK {
		t.Fatalf("it may not be: %+v", got)
	}
}

// views holds what is seen of s against its words.
func views(t *testing.T, s api.Screen) {
	t.Helper()
	want := api.View{Grid: s.Main, Row: s.Cur.Row, Col: s.Cur.Col, Modes: s.Modes, Title: s.Title}
	if s.Swapped {
		want.Grid = s.Other
	}
	if v, e := screen.View(s); e != api.OK || !reflect.DeepEqual(v, want) {
		t.Fatalf("%+v, %v\nnot %+v", v, e, want)
	}
}

// may holds whether s may be against what all calls tell of it.
func may(t *testing.T, s api.Screen, ok bool) {
	t.Helper()
	if ok {
		if e := screen.Check(s); e != api.OK {
			t.Fatalf("it may be: %+v, %v", s, e)
		}
		views(t, s)
		x, e := screen.Resize(s, 2, 3)
		is(t, x, e, wantResized(s, 2, 3))
		return
	}
	v, e := screen.View(s)
	x, f := screen.Resize(s, 2, 3)
	if c := screen.Check(s); c != api.ErrForm || e != c || f != c {
		t.Fatalf("it may not be: %+v: %v, %v, %v", s, c, e, f)
	}
	if !reflect.DeepEqual(v, api.View{}) || !reflect.DeepEqual(x, api.Screen{}) {
		t.Fatalf("beside an error: %+v, %+v", v, x)
	}
}

// wantResized is P8.2 by its words; chapters 6 and 7 say what becomes of grids and stops.
func wantResized(s api.Screen, rows, cols int) api.Screen {
	s.Main, _ = grid.Resize(s.Main, rows, cols, plain)
	s.Other, _ = grid.Resize(s.Other, rows, cols, plain)
	s.Tabs, _ = tabs.Resize(s.Tabs, cols)
	moved := func(c api.Cursor) api.Cursor {
		if c.Row >= rows {
			c.Row = rows - 1
		}
		if c.Col >= cols {
			c.Col = cols - 1
		}
		c.Wrap = false
		return c
	}
	s.Cur, s.Saved, s.SavedToo = moved(s.Cur), moved(s.Saved), moved(s.SavedToo)
	s.Top, s.Bottom = 0, rows-1
	return s
}

// farNumbers are wrong wherever a small number is asked for, whatever is cut of it.
var farNumbers = []int{math.MinInt, math.MaxInt, -1 << 32, 1 << 32, 1<<32 + 1, -2}

var wrongSides = [][2]int{{0, 1}, {1, 0}, {0, 0}, {-1, 1}, {1, -1}, {-1, -1}, {api.MaxSide + 1, 1}, {1, api.MaxSide + 1}, {1 << 32, 1 << 32}, {1<<32 + 1, 1<<32 + 1}, {math.MaxInt, 1}, {1, math.MinInt}}

// P8.1: New, of all sizes that may be.
func TestNew(t *testing.T) {
	for rows := 1; rows <= api.MaxSide; rows++ {
		for cols := 1; cols <= api.MaxSide; cols++ {
			g := api.Grid{Rows: rows, Cols: cols, Cells: blanks(rows * cols)}
			stops := make([]bool, cols)
			for i := 8; i < cols; i += 8 {
				stops[i] = true
			}
			c := api.Cursor{Attr: api.Attr{Fg: -1, Bg: -1}}
			s, e := screen.New(rows, cols)
			is(t, s, e, api.Screen{Main: g, Other: g, Cur: c, Saved: c, SavedToo: c, Bottom: rows - 1, Tabs: stops, Modes: api.ModeWrap | api.ModeShown})
		}
	}
}

// P8.1, P8.2: sizes that may not be; beside the error there is nothing.
func TestWrongSides(t *testing.T) {
	for _, c := range wrongSides {
		x, e := screen.New(c[0], c[1])
		y, f := screen.Resize(made(3, 4), c[0], c[1])
		if e != api.ErrForm || f != api.ErrForm || !reflect.DeepEqual(x, api.Screen{}) || !reflect.DeepEqual(y, api.Screen{}) {
			t.Errorf("%v: %+v, %v; %+v, %v", c, x, e, y, f)
		}
	}
}

// P8.1: grids that may not be, or are not of one size.
func TestCheckGrids(t *testing.T) {
	may(t, made(3, 4), true)
	may(t, api.Screen{}, false)
	// Each grid is found by its own function, so that both are held to all.
	for _, of := range []func(s *api.Screen) *api.Grid{
		func(s *api.Screen) *api.Grid { return &s.Main },
		func(s *api.Screen) *api.Grid { return &s.Other },
	} {
		wrong := []api.Grid{{}, {Rows: 3, Cols: 4}, {Rows: -3, Cols: -4, Cells: blanks(12)}, {Rows: 3, Cols: 4, Cells: blanks(11)}, {Rows: 3, Cols: 4, Cells: blanks(13)}, {Rows: math.MinInt, Cols: math.MinInt, Cells: blanks(12)}}
		for _, c := range [][2]int{{4, 3}, {2, 6}, {6, 2}, {1, 12}, {12, 1}, {2, 4}, {4, 4}, {3, 3}, {3, 5}} {
			wrong = append(wrong, gridOf(c[0], c[1], 0))
		}
		for i := range 12 {
			for _, c := range []api.Cell{{}, {Rune: '\n', Attr: plain}, {Rune: 'x', Comb: "x", Attr: plain}, {Rune: 'x', Attr: api.Attr{Fg: -2}}, {Rune: '世', Attr: plain}, wide('世', loud)[0], wide('世', loud)[1]} {
				g := gridOf(3, 4, 0)
				g.Cells[i] = c
				// A half that comes looks otherwise than the other one that was there.
				wrong = append(wrong, g)
			}
		}
		for _, swapped := range []bool{false, true} {
			for _, g := range wrong {
				s := made(3, 4)
				s.Swapped = swapped
				*of(&s) = g
				may(t, s, false)
			}
		}
	}
	s := made(api.MaxSide, api.MaxSide)
	may(t, s, true)
	s.Main, s.Other = gridOf(api.MaxSide+1, api.MaxSide, 0), gridOf(api.MaxSide+1, api.MaxSide, 0)
	may(t, s, false)
}

// cursors are ways to find each cursor of a screen.
var cursors = []func(s *api.Screen) *api.Cursor{
	func(s *api.Screen) *api.Cursor { return &s.Cur },
	func(s *api.Screen) *api.Cursor { return &s.Saved },
	func(s *api.Screen) *api.Cursor { return &s.SavedToo },
}

// P8.1: places of cursors, and Wrap, each of all three.
func TestCheckPlaces(t *testing.T) {
	for _, size := range [][2]int{{1, 1}, {1, 3}, {3, 1}, {2, 3}, {4, 2}} {
		s := made(size[0], size[1])
		for _, cursor := range cursors {
			for row := -1; row <= size[0]; row++ {
				for col := -1; col <= size[1]; col++ {
					for _, wrap := range []bool{false, true} {
						x := s
						c := cursor(&x)
						c.Row, c.Col, c.Wrap = row, col, wrap
						may(t, x, 0 <= row && row < size[0] && 0 <= col && col < size[1] && (!wrap || col == size[1]-1))
					}
				}
			}
			for _, n := range farNumbers {
				x, y := s, s
				cursor(&x).Row, cursor(&y).Col = n, n
				may(t, x, false)
				may(t, y, false)
			}
		}
	}
}

// P8.1: how cursors write, each of all three.
func TestCheckCursors(t *testing.T) {
	numbers := append(slices.Clone(farNumbers), 256+1<<24-1, 256+1<<24)
	for n := -3; n < 300; n++ {
		numbers = append(numbers, n)
	}
	sets := []func(c *api.Cursor) *int{
		func(c *api.Cursor) *int { return &c.G0 }, func(c *api.Cursor) *int { return &c.G1 }, func(c *api.Cursor) *int { return &c.Shift },
	}
	looks := []func(c *api.Cursor) *int{
		func(c *api.Cursor) *int { return &c.Attr.Fg }, func(c *api.Cursor) *int { return &c.Attr.Bg }, func(c *api.Cursor) *int { return &c.Attr.Flags },
	}
	for _, cursor := range cursors {
		for _, n := range numbers {
			for _, field := range sets {
				s := made(2, 3)
				*field(cursor(&s)) = n
				may(t, s, n == 0 || n == 1)
			}
			for _, field := range looks {
				s := made(2, 3)
				*field(cursor(&s)) = n
				may(t, s, sgr.Check(cursor(&s).Attr) == api.OK)
			}
		}
		for _, origin := range []bool{false, true} {
			s := made(2, 3)
			cursor(&s).Origin = origin
			may(t, s, true)
		}
	}
}

// P8.1: all margins of few rows; of one row both are 0.
func TestCheckMargins(t *testing.T) {
	for rows := 1; rows <= 6; rows++ {
		s := made(rows, 2)
		for top := -2; top <= rows+1; top++ {
			for bottom := -2; bottom <= rows+1; bottom++ {
				s.Top, s.Bottom = top, bottom
				may(t, s, 0 <= top && top < bottom && bottom < rows || rows == 1 && top == 0 && bottom == 0)
			}
		}
		for _, n := range farNumbers {
			s.Top, s.Bottom = n, rows-1
			may(t, s, false)
			s.Top, s.Bottom = 0, n
			may(t, s, false)
		}
	}
}

// P8.1: as many stops as columns, whichever they are.
func TestCheckTabs(t *testing.T) {
	for _, cols := range []int{1, 2, 9, api.MaxSide} {
		s := made(2, cols)
		for n := range api.MaxSide + 3 {
			for _, on := range []bool{false, true} {
				s.Tabs = slices.Repeat([]bool{on}, n)
				may(t, s, n == cols)
			}
		}
		s.Tabs = nil
		may(t, s, false)
	}
}

// P8.1: all modes, and Swapped.
func TestCheckModes(t *testing.T) {
	s := made(2, 2)
	for n := -2; n <= 2050; n++ {
		s.Modes, s.Swapped = n, n%2 == 0
		may(t, s, 0 <= n && n <= 1023)
	}
	for _, n := range farNumbers {
		s.Modes = n
		may(t, s, false)
	}
}

// P8.1: titles: how long, of which runes, of which bytes.
func TestCheckTitles(t *testing.T) {
	s := made(2, 2)
	for n := range 3 * api.MaxString {
		for _, x := range []string{"x", "é", "世", "\U0010ffff"} {
			s.Title = strings.Repeat(x, n)
			may(t, s, n*len(x) <= 64)
			s.Title = "x" + s.Title
			may(t, s, 1+n*len(x) <= 64)
		}
	}
	for r := range 0x300 {
		for _, title := range []string{string(rune(r)), "x" + string(rune(r)), string(rune(r)) + "x", strings.Repeat("x", 62) + string(rune(r))} {
			s.Title = title
			may(t, s, r >= 0x20)
		}
	}
	for _, good := range []string{"", "\ufffd", "\ufffd\ufffd", "e\u0301", "\u0301", "\u2028", "\ue000", "\uffff"} {
		s.Title = good
		may(t, s, true)
	}
	for _, bad := range []string{"\xff", "\x80", "x\xc3", "\xc3x", "\xa9", "\xc0\x80", "\xed\xa0\x80", "\xf4\x90\x80\x80", "\ufffd\xff", "\xef\xbf", strings.Repeat("x", 63) + "\xe9", strings.Repeat("x", 1<<20)} {
		s.Title = bad
		may(t, s, false)
	}
}

// P8.1: each rune may be the last one that has cells.
func TestCheckLast(t *testing.T) {
	s := made(1, 1)
	s.Main, s.Other = gridOf(1, 1, 0), gridOf(1, 1, 50)
	for r := -3; r < 0x110003; r++ {
		s.Last = r
		want := api.ErrForm
		if n := width.Of(r); r == 0 || n == 1 || n == 2 {
			want = api.OK
		}
		if e := screen.Check(s); e != want {
			t.Fatalf("Last %x: %v", r, e)
		}
	}
	for _, r := range []int{0, ' ', '~', 0xa0, '世', 0x1f600, 0x10ffff} {
		s.Last = r
		may(t, s, true)
	}
	for _, r := range append(slices.Clone(farNumbers), -1, 1, 10, 31, 127, 0x9f, 0x300, 0x200b, 0xfe0f, 0xd800, 0x110000, 1<<32+'x', -1<<32+'x') {
		s.Last = r
		may(t, s, false)
	}
}

// P8.1: View, of all sizes some, of either grid.
func TestView(t *testing.T) {
	for _, size := range [][2]int{{1, 1}, {1, api.MaxSide}, {api.MaxSide, 1}, {2, 3}, {3, 8}, {api.MaxSide, api.MaxSide}} {
		s := made(size[0], size[1])
		for _, swapped := range []bool{false, true} {
			s.Swapped = swapped
			views(t, s)
			views(t, wantResized(s, size[0], size[1]))
		}
		views(t, fresh(t, size[0], size[1]))
	}
	s := fresh(t, 2, 3)
	s.Main.Cells[4].Rune, s.Other.Cells[4].Rune, s.Cur.Row, s.Cur.Col, s.Modes, s.Title = 'm', 'o', 1, 2, 5, "t"
	s.Saved.Row, s.SavedToo.Col = 1, 1
	v, e := screen.View(s)
	if v.Grid.Cells[4].Rune != 'm' || v.Grid.Rows != 2 || v.Grid.Cols != 3 || v.Row != 1 || v.Col != 2 || v.Modes != 5 || v.Title != "t" || e != api.OK {
		t.Errorf("%+v, %v", v, e)
	}
}

// P8.2: Resize, from many sizes to many.
func TestResize(t *testing.T) {
	sides := []int{1, 2, 3, 5, 8, 9, 17, api.MaxSide}
	for _, rows := range sides {
		for _, cols := range sides {
			s := made(rows, cols)
			was := copied(s)
			for _, r := range sides {
				for _, c := range sides {
					x, e := screen.Resize(s, r, c)
					is(t, x, e, wantResized(s, r, c))
				}
			}
			if !reflect.DeepEqual(s, was) {
				t.Fatalf("%d, %d: what was handed in is now %+v", rows, cols, s)
			}
		}
	}
}

// P8.2: written out: smaller, with a wide rune at the new edge, and greater.
func TestResizeWrittenOut(t *testing.T) {
	s := fresh(t, 2, 3)
	x := api.Cell{Rune: 'x', Attr: loud}
	s.Main.Cells = slices.Concat([]api.Cell{x}, wide('世', loud), blanks(2), []api.Cell{x})
	s.Other.Cells[0] = x
	s.Cur = api.Cursor{Row: 1, Col: 2, Wrap: true, Attr: loud, G1: 1, Shift: 1, Origin: true}
	s.Saved = api.Cursor{Row: 0, Col: 2, Wrap: true, Attr: loud}
	s.SavedToo = api.Cursor{Row: 1, Col: 0, Attr: plain}
	s.Tabs[1], s.Swapped, s.Modes, s.Title, s.Last = true, true, 77, "t", 'x'
	less, e := screen.Resize(s, 1, 2)
	mended := api.Cell{Rune: ' ', Attr: api.Attr{Fg: -1, Bg: loud.Bg}}
	is(t, less, e, api.Screen{
		Main:     api.Grid{Rows: 1, Cols: 2, Cells: []api.Cell{x, mended}},
		Other:    api.Grid{Rows: 1, Cols: 2, Cells: append([]api.Cell{x}, blanks(1)...)},
		Swapped:  true,
		Cur:      api.Cursor{Row: 0, Col: 1, Attr: loud, G1: 1, Shift: 1, Origin: true},
		Saved:    api.Cursor{Row: 0, Col: 1, Attr: loud},
		SavedToo: api.Cursor{Row: 0, Col: 0, Attr: plain},
		Tabs:     []bool{false, true}, Modes: 77, Title: "t", Last: 'x',
	})
	more, e := screen.Resize(s, 3, 10)
	want := s
	want.Main = api.Grid{Rows: 3, Cols: 10, Cells: slices.Concat(s.Main.Cells[:3], blanks(7), s.Main.Cells[3:], blanks(17))}
	want.Other = api.Grid{Rows: 3, Cols: 10, Cells: append([]api.Cell{x}, blanks(29)...)}
	want.Cur.Wrap, want.Saved.Wrap, want.Bottom = false, false, 2
	want.Tabs = []bool{false, true, false, false, false, false, false, false, true, false}
	is(t, more, e, want)
}

// P8.3: resized to its own size the grids stay, and the stops.
func TestResizeToItself(t *testing.T) {
	for rows := 1; rows <= 12; rows++ {
		for cols := 1; cols <= 12; cols++ {
			s := made(rows, cols)
			x, e := screen.Resize(s, rows, cols)
			if e != api.OK || !reflect.DeepEqual(x.Main, s.Main) || !reflect.DeepEqual(x.Other, s.Other) || !slices.Equal(x.Tabs, s.Tabs) {
				t.Fatalf("%+v, %v\nnot %+v", x, e, s)
			}
			y, e := screen.Resize(x, rows, cols)
			is(t, y, e, x)
			n := fresh(t, rows, cols)
			z, e := screen.Resize(n, rows, cols)
			is(t, z, e, n)
		}
	}
}

// spoil writes into all lists of s, their spare room too.
func spoil(s api.Screen) {
	for _, l := range [][]api.Cell{s.Main.Cells, s.Other.Cells} {
		for i := range l[:cap(l)] {
			l[:cap(l)][i].Rune = '!'
		}
	}
	for i := range s.Tabs[:cap(s.Tabs)] {
		s.Tabs[:cap(s.Tabs)][i] = !s.Tabs[:cap(s.Tabs)][i]
	}
}

// roomy is s with spare room behind its lists.
func roomy(s api.Screen) api.Screen {
	n, m := len(s.Main.Cells), len(s.Tabs)
	s.Main.Cells, s.Other.Cells = slices.Concat(s.Main.Cells, line(3, 30))[:n], slices.Concat(s.Other.Cells, line(4, 30))[:n]
	s.Tabs = slices.Concat(s.Tabs, make([]bool, 30))[:m]
	return s
}

// all is s with the spare room of its lists.
func all(s api.Screen) api.Screen {
	s.Main.Cells, s.Other.Cells, s.Tabs = s.Main.Cells[:cap(s.Main.Cells)], s.Other.Cells[:cap(s.Other.Cells)], s.Tabs[:cap(s.Tabs)]
	return s
}

// R2: what is told is new memory, spare room too, and no two lists of it share any; what is handed in stays.
func TestOwnMemory(t *testing.T) {
	calls := []func(s api.Screen) (api.Screen, api.Errno){
		func(s api.Screen) (api.Screen, api.Errno) { return screen.New(3, 4) },
		func(s api.Screen) (api.Screen, api.Errno) { return screen.Resize(s, 3, 4) },
		func(s api.Screen) (api.Screen, api.Errno) { return screen.Resize(s, 2, 3) },
		func(s api.Screen) (api.Screen, api.Errno) { return screen.Resize(s, 2, 4) },
		func(s api.Screen) (api.Screen, api.Errno) { return screen.Resize(s, 5, 9) },
		func(s api.Screen) (api.Screen, api.Errno) {
			v, e := screen.View(s)
			return api.Screen{Main: v.Grid}, e
		},
		func(s api.Screen) (api.Screen, api.Errno) {
			s.Swapped = false
			v, e := screen.View(s)
			return api.Screen{Main: v.Grid}, e
		},
	}
	for i, call := range calls {
		given := roomy(made(3, 4))
		was := copied(all(given))
		x, e := call(given)
		y, f := call(given)
		if e != api.OK || f != api.OK || !reflect.DeepEqual(x, y) {
			t.Errorf("%d: %+v, %v, then %+v, %v", i, x, e, y, f)
		}
		kept := copied(y)
		spoil(x)
		if !reflect.DeepEqual(all(given), was) {
			t.Errorf("%d: what was handed in is now %+v", i, all(given))
		}
		spoil(given)
		if !reflect.DeepEqual(y, kept) {
			t.Errorf("%d: what was told is now %+v", i, y)
		}
		other := slices.Clone(y.Other.Cells)
		spoil(api.Screen{Main: y.Main})
		if !slices.Equal(y.Other.Cells, other) {
			t.Errorf("%d: the grids share memory", i)
		}
	}
}
