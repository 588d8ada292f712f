package mode_test

import (
	"math"
	"reflect"
	"slices"
	"testing"

	"beacon/api"
	"beacon/cursor"
	"beacon/mode"
	"beacon/screen"
)

// allModes is every mode at once.
const allModes = 1023

var (
	plain = api.Attr{Fg: -1, Bg: -1}
	loud  = api.Attr{Fg: 3, Bg: 256 + 1<<24 - 1, Flags: 255}
)

// flags are the modes of the numbers that are not private (false) and private (true), by P12.1.
var flags = map[bool]map[int]int{
	false: {4: api.ModeInsert, 20: api.ModeNewline},
	true: {
		1: api.ModeArrows, 5: api.ModeReverse, 7: api.ModeWrap, 25: api.ModeShown,
		66: api.ModePad, 1000: api.ModeMouse, 1004: api.ModeFocus, 2004: api.ModePaste,
	},
}

// swaps are the private numbers that make the other grid seen.
var swaps = []int{47, 1047, 1049}

// gridOf is a grid whose cells differ, and differ from those of another first: marked runes, and wide ones.
func gridOf(rows, cols, first int) api.Grid {
	g := api.Grid{Rows: rows, Cols: cols}
	for i := 0; len(g.Cells) < rows*cols; i++ {
		a := api.Attr{Fg: i % 256, Bg: first, Flags: (first + i) % 256}
		if i%2 == 1 && len(g.Cells)%cols+2 <= cols {
			g.Cells = append(g.Cells, api.Cell{Rune: '世' + i, Comb: "\u0302", Wide: api.WideFirst, Attr: a}, api.Cell{Wide: api.WideSecond, Attr: a})
			continue
		}
		g.Cells = append(g.Cells, api.Cell{Rune: 'a' + (first+i)%26, Comb: "\u0301", Attr: a})
	}
	return g
}

// full is a grid of one cell, over and over.
func full(rows, cols int, r int) api.Grid {
	return api.Grid{Rows: rows, Cols: cols, Cells: slices.Repeat([]api.Cell{{Rune: r, Attr: plain}}, rows*cols)}
}

// made is a screen of which hardly anything is as screen.New tells it, but for the margins.
func made(rows, cols int) api.Screen {
	return api.Screen{
		Main: gridOf(rows, cols, 0), Other: gridOf(rows, cols, 7),
		Cur:      api.Cursor{Attr: loud, G0: api.SetLines, G1: api.SetLines, Shift: 1, Origin: true},
		Saved:    api.Cursor{Row: rows / 2, Col: cols / 2, Attr: loud, G1: api.SetLines},
		SavedToo: api.Cursor{Col: cols - 1, Wrap: true, Attr: loud, Shift: 1, Origin: true},
		Bottom:   rows - 1,
		Tabs:     slices.Repeat([]bool{true, false, false}, cols)[:cols],
		Modes:    allModes, Title: "té", Last: 'L',
	}
}

// copied is s in memory of its own.
func copied(s api.Screen) api.Screen {
	s.Main.Cells, s.Other.Cells, s.Tabs = slices.Clone(s.Main.Cells), slices.Clone(s.Other.Cells), slices.Clone(s.Tabs)
	return s
}

func same(a, b api.Screen) bool {
	lists := slices.Equal(a.Main.Cells, b.Main.Cells) && slices.Equal(a.Other.Cells, b.Other.Cells) && slices.Equal(a.Tabs, b.Tabs)
	a.Main.Cells, a.Other.Cells, a.Tabs = nil, nil, nil
	b.Main.Cells, b.Other.Cells, b.Tabs = nil, nil, nil
	return lists && reflect.DeepEqual(a, b)
}

// is holds an answer against what it should be, and to what may be.
func is(t *testing.T, got api.Screen, e api.Errno, want api.Screen) {
	t.Helper()
	if e != api.OK || !same(got, want) {
		t.Fatalf("%+v, %v\nnot %+v", got, e, want)
	}
	if screen.Check(got) != api.OK {
		t.Fatalf("it may not be: %+v", got)
	}
}

// refused holds an answer against ErrForm and nothing beside it.
func refused(t *testing.T, got api.Screen, e api.Errno) {
	t.Helper()
	if e != api.ErrForm || !reflect.DeepEqual(got, api.Screen{}) {
		t.Errorf("%+v, %v", got, e)
	}
}

// home is s with its cursor at the first place, by P10.2.
func home(s api.Screen) api.Screen {
	s.Cur.Row, s.Cur.Col, s.Cur.Wrap = 0, 0, false
	if s.Cur.Origin {
		s.Cur.Row = s.Top
	}
	return s
}

// wantSwap is what 47, 1047 and 1049 are by P12.1.
func wantSwap(s api.Screen, n int, on bool) api.Screen {
	x := s
	x.Swapped = on
	switch {
	case on && n == 1049 && s.Swapped:
		x.SavedToo = s.Cur
	case on && n == 1049:
		x.Saved = s.Cur
	case n == 1049 && s.Swapped:
		x.Cur = s.Saved
	}
	if on && !s.Swapped && n != 47 {
		x.Other = full(s.Main.Rows, s.Main.Cols, ' ')
	}
	return x
}

// wantSet is P12.1 by its words.
func wantSet(s api.Screen, private bool, n int, on bool) api.Screen {
	if private && slices.Contains(swaps, n) {
		return wantSwap(s, n, on)
	}
	if private && n == 6 {
		s.Cur.Origin = on
		return home(s)
	}
	if private && n == 7 && !on {
		s.Cur.Wrap = false
	}
	if on {
		s.Modes |= flags[private][n]
	} else {
		s.Modes &^= flags[private][n]
	}
	return s
}

// wantMargins is P12.2 by its words.
func wantMargins(s api.Screen, n, m int) api.Screen {
	if n == 0 || n == -1 {
		n = 1
	}
	if m == 0 || m == -1 {
		m = s.Main.Rows
	}
	if n >= m || m > s.Main.Rows {
		return s
	}
	s.Top, s.Bottom = n-1, m-1
	return home(s)
}

// wantSoft is Soft by P12.3.
func wantSoft(s api.Screen) api.Screen {
	s.Modes = s.Modes&(api.ModeReverse|api.ModePaste|api.ModeMouse|api.ModeFocus) | api.ModeWrap | api.ModeShown
	s.Cur.Attr, s.Cur.G0, s.Cur.G1, s.Cur.Shift, s.Cur.Origin, s.Cur.Wrap = plain, api.SetPlain, api.SetPlain, 0, false, false
	s.Top, s.Bottom = 0, s.Main.Rows-1
	s.Saved, s.SavedToo = api.Cursor{Attr: plain}, api.Cursor{Attr: plain}
	return s
}

// wantAlign is Align by P12.3.
func wantAlign(s api.Screen) api.Screen {
	if s.Swapped {
		s.Other = full(s.Main.Rows, s.Main.Cols, 'E')
	} else {
		s.Main = full(s.Main.Rows, s.Main.Cols, 'E')
	}
	s.Top, s.Bottom = 0, s.Main.Rows-1
	s.Cur.Row, s.Cur.Col, s.Cur.Wrap = 0, 0, false
	return s
}

// flipped are s by Origin and Swapped.
func flipped(s api.Screen) []api.Screen {
	var l []api.Screen
	for bits := range 4 {
		s.Cur.Origin, s.Swapped = bits&1 != 0, bits&2 != 0
		l = append(l, s)
	}
	return l
}

// placed are s with its cursor at all places, both ways to wrap and to count, and all margins, of either grid.
func placed(s api.Screen) []api.Screen {
	var l []api.Screen
	for top := range s.Main.Rows {
		for bottom := top; bottom < s.Main.Rows; bottom++ {
			s.Top, s.Bottom = top, bottom
			if top == bottom && s.Main.Rows > 1 {
				continue
			}
			for i := range s.Main.Rows * s.Main.Cols {
				s.Cur.Row, s.Cur.Col, s.Cur.Wrap = i/s.Main.Cols, i%s.Main.Cols, false
				l = append(l, flipped(s)...)
				if s.Cur.Col == s.Main.Cols-1 {
					s.Cur.Wrap = true
					l = append(l, flipped(s)...)
				}
			}
		}
	}
	return l
}

// sizes are some small ones.
var sizes = [][2]int{{1, 1}, {1, 4}, {2, 1}, {2, 2}, {4, 3}}

// wrapping is s with its cursor waiting at the last column.
func wrapping(s api.Screen) api.Screen {
	s.Cur.Col, s.Cur.Wrap = s.Main.Cols-1, true
	return s
}

// P12.1: all numbers, private and not, of none of the modes and of all.
func TestSetAllNumbers(t *testing.T) {
	for _, s := range flipped(wrapping(made(3, 4))) {
		for n := -1; n <= api.MaxValue; n++ {
			for bits := range 8 {
				private, on := bits&1 != 0, bits&2 != 0
				s.Modes = allModes * (bits >> 2)
				x, e := mode.Set(s, private, n, on)
				is(t, x, e, wantSet(s, private, n, on))
			}
		}
	}
}

// P12.1: each flag, of all sets of modes; no other one changes.
func TestSetEachFlag(t *testing.T) {
	s := made(1, 2)
	for private, l := range flags {
		for n, bit := range l {
			for s.Modes = range allModes + 1 {
				x, e := mode.Set(s, private, n, true)
				want := s
				want.Modes |= bit
				is(t, x, e, want)
				x, e = mode.Set(x, private, n, false)
				want.Modes &^= bit
				is(t, x, e, want)
			}
		}
	}
}

// P12.1: written out: the modes behind a number that is on, where none was, and that is off, where all were.
func TestSetWrittenOut(t *testing.T) {
	for _, c := range []struct {
		private bool
		n, bit  int
	}{
		{false, 4, 2}, {false, 20, 4}, {true, 7, 1}, {true, 25, 8}, {true, 1, 16}, {true, 66, 32}, {true, 5, 64}, {true, 2004, 128}, {true, 1000, 256}, {true, 1004, 512},
		{false, 7, 0}, {false, 25, 0}, {false, 1, 0}, {false, 66, 0}, {false, 5, 0}, {false, 6, 0}, {false, 47, 0}, {false, 1000, 0}, {false, 1004, 0}, {false, 1047, 0}, {false, 1049, 0}, {false, 2004, 0},
		{true, 4, 0}, {true, 20, 0}, {true, 0, 0}, {true, -1, 0}, {false, 0, 0}, {false, -1, 0}, {true, 2, 0}, {true, 12, 0}, {true, 1048, 0}, {true, 1002, 0}, {true, 1006, 0}, {true, 725, 0}, {true, 257, 0}, {true, 9999, 0}, {false, 9999, 0},
	} {
		s := made(2, 3)
		want := s
		s.Modes, want.Modes = 0, c.bit
		x, e := mode.Set(s, c.private, c.n, true)
		is(t, x, e, want)
		s.Modes, want.Modes = 1023, 1023-c.bit
		x, e = mode.Set(s, c.private, c.n, false)
		is(t, x, e, want)
	}
}

// P12.1, the example: the cursor is not seen.
func TestHideCursor(t *testing.T) {
	s, _ := screen.New(2, 3)
	want := s
	want.Modes = api.ModeWrap
	x, e := mode.Set(s, true, 25, false)
	is(t, x, e, want)
}

// P12.1: 7 off ends Wrap, though the mode was off; 7 on, and all other flags, leave it.
func TestSetWrap(t *testing.T) {
	for _, size := range sizes {
		for _, s := range flipped(wrapping(made(size[0], size[1]))) {
			for _, s.Modes = range []int{0, api.ModeWrap, allModes &^ api.ModeWrap, allModes} {
				x, e := mode.Set(s, true, 7, false)
				if e != api.OK || x.Cur.Wrap || x.Modes != s.Modes&^api.ModeWrap {
					t.Errorf("%+v, %v", x, e)
				}
				x, e = mode.Set(s, true, 7, true)
				if e != api.OK || !x.Cur.Wrap || x.Modes != s.Modes|api.ModeWrap {
					t.Errorf("%+v, %v", x, e)
				}
				x, e = mode.Set(s, false, 7, false)
				is(t, x, e, s)
			}
		}
	}
}

// P12.1: 6, from everywhere.
func TestSetOrigin(t *testing.T) {
	for _, size := range sizes {
		for _, s := range placed(made(size[0], size[1])) {
			for _, on := range []bool{false, true} {
				want := s
				want.Cur.Origin, want.Cur.Row, want.Cur.Col, want.Cur.Wrap = on, 0, 0, false
				if on {
					want.Cur.Row = s.Top
				}
				x, e := mode.Set(s, true, 6, on)
				is(t, x, e, want)
			}
		}
	}
}

// P12.1: the other grid, from everywhere: what is seen, kept, blank.
func TestSetSwapEverywhere(t *testing.T) {
	for _, size := range sizes {
		for _, s := range placed(made(size[0], size[1])) {
			was := copied(s)
			for _, n := range swaps {
				for _, on := range []bool{false, true} {
					x, e := mode.Set(s, true, n, on)
					is(t, x, e, wantSwap(s, n, on))
				}
			}
			if !same(s, was) {
				t.Fatalf("it is now %+v\nnot %+v", s, was)
			}
		}
	}
	for _, size := range [][2]int{{1, api.MaxSide}, {api.MaxSide, 1}, {api.MaxSide, api.MaxSide}} {
		for _, s := range flipped(wrapping(made(size[0], size[1]))) {
			for _, n := range swaps {
				x, e := mode.Set(s, true, n, true)
				is(t, x, e, wantSwap(s, n, true))
			}
		}
	}
}

// P12.1: there and back: 1049 brings the cursor back that it kept, 47 and 1047 bring none.
func TestSwapThereAndBack(t *testing.T) {
	for _, n := range swaps {
		s := made(4, 3)
		s.Cur.Row, s.Cur.Col, s.Top, s.Bottom = 2, 1, 1, 3
		x, e := mode.Set(s, true, n, true)
		if e != api.OK || !x.Swapped || x.Cur != s.Cur {
			t.Fatalf("%d: %+v, %v", n, x, e)
		}
		if blank := slices.Equal(x.Other.Cells, full(4, 3, ' ').Cells); blank != (n != 47) {
			t.Errorf("%d: %+v", n, x.Other)
		}
		x, _ = cursor.Home(x)
		x.Cur.Attr, x.Cur.G0, x.Cur.Origin = plain, api.SetPlain, false
		gone := x.Cur
		x, e = mode.Set(x, true, n, false)
		if e != api.OK || x.Swapped || !slices.Equal(x.Main.Cells, s.Main.Cells) {
			t.Errorf("%d: %+v, %v", n, x, e)
		}
		if back := x.Cur == s.Cur; back != (n == 1049) || !back && x.Cur != gone {
			t.Errorf("%d: %+v", n, x.Cur)
		}
		// What stands on the other grid is there again for 47 alone.
		x.Other = gridOf(4, 3, 9)
		y, e := mode.Set(x, true, 47, true)
		if e != api.OK || !y.Swapped || !slices.Equal(y.Other.Cells, x.Other.Cells) {
			t.Errorf("%d: %+v, %v", n, y, e)
		}
	}
}

// P12.1, P12.2: numbers that may not be.
func TestWrongNumbers(t *testing.T) {
	s := made(3, 4)
	for _, n := range []int{-2, -3, api.MaxValue + 1, math.MinInt, math.MaxInt, 1<<16 + 6, 1 << 32, 1<<32 + 1, 1<<32 + 7, -1<<32 + 25, 1<<32 + 1049} {
		for bits := range 4 {
			x, e := mode.Set(s, bits&1 != 0, n, bits&2 != 0)
			refused(t, x, e)
		}
		for _, m := range []int{-1, 0, 1, 2, 3, 4, api.MaxValue, n} {
			x, e := mode.Margins(s, n, m)
			refused(t, x, e)
			x, e = mode.Margins(s, m, n)
			refused(t, x, e)
		}
	}
}

// P12.2: all margins of small screens, and numbers about their sizes.
func TestMarginsEverywhere(t *testing.T) {
	for _, size := range sizes {
		for _, s := range placed(made(size[0], size[1])) {
			was := copied(s)
			for n := -1; n <= size[0]+2; n++ {
				for m := -1; m <= size[0]+2; m++ {
					x, e := mode.Margins(s, n, m)
					is(t, x, e, wantMargins(s, n, m))
				}
			}
			if !same(s, was) {
				t.Fatalf("it is now %+v\nnot %+v", s, was)
			}
		}
	}
}

// P12.2: the greatest screen, and the greatest numbers.
func TestMarginsFar(t *testing.T) {
	l := []int{-1, 0, 1, 2, 20, 38, 39, 40, 41, 42, 255, 256, 257, 4097, api.MaxValue - 1, api.MaxValue}
	for _, s := range flipped(wrapping(made(api.MaxSide, 2))) {
		s.Cur.Row, s.Top, s.Bottom = 7, 5, 9
		for _, n := range l {
			for _, m := range l {
				x, e := mode.Margins(s, n, m)
				is(t, x, e, wantMargins(s, n, m))
			}
		}
	}
}

// P12.2: written out, on five rows whose margins are 2 and 4; top -1: nothing.
func TestMarginsWrittenOut(t *testing.T) {
	for _, c := range []struct{ n, m, top, bottom int }{
		{1, 5, 0, 4}, {2, 4, 1, 3}, {1, 2, 0, 1}, {4, 5, 3, 4}, {-1, -1, 0, 4}, {0, 0, 0, 4}, {-1, 0, 0, 4}, {0, 3, 0, 2}, {-1, 2, 0, 1}, {3, 0, 2, 4}, {4, -1, 3, 4},
		{5, -1, -1, 0}, {5, 5, -1, 0}, {1, 1, -1, 0}, {0, 1, -1, 0}, {-1, 1, -1, 0}, {3, 3, -1, 0}, {4, 2, -1, 0}, {5, 1, -1, 0}, {1, 6, -1, 0}, {5, 6, -1, 0}, {6, 0, -1, 0}, {6, 7, -1, 0}, {9999, 9999, -1, 0}, {-1, 9999, -1, 0}, {9999, -1, -1, 0},
	} {
		for _, s := range flipped(made(5, 4)) {
			s.Cur.Row, s.Cur.Col, s.Cur.Wrap, s.Top, s.Bottom = 4, 3, true, 2, 4
			want := s
			if c.top >= 0 {
				want.Top, want.Bottom, want.Cur.Row, want.Cur.Col, want.Cur.Wrap = c.top, c.bottom, 0, 0, false
				if s.Cur.Origin {
					want.Cur.Row = c.top
				}
			}
			x, e := mode.Margins(s, c.n, c.m)
			is(t, x, e, want)
		}
	}
}

// P12.3: Soft, from everywhere, and of all modes.
func TestSoft(t *testing.T) {
	for _, size := range sizes {
		for _, s := range placed(made(size[0], size[1])) {
			was := copied(s)
			x, e := mode.Soft(s)
			is(t, x, e, wantSoft(s))
			if !same(s, was) {
				t.Fatalf("it is now %+v\nnot %+v", s, was)
			}
		}
	}
	s := made(2, 2)
	for s.Modes = range allModes + 1 {
		x, e := mode.Soft(s)
		is(t, x, e, wantSoft(s))
	}
}

// P12.3: Soft, written out: where the cursor is, what is seen, stops, title and last rune stay.
func TestSoftWrittenOut(t *testing.T) {
	s := made(3, 4)
	s.Swapped, s.Top, s.Bottom, s.Cur.Row, s.Cur.Col, s.Cur.Wrap = true, 1, 2, 2, 3, true
	first := api.Cursor{Attr: plain}
	want := api.Screen{
		Main: gridOf(3, 4, 0), Other: gridOf(3, 4, 7), Swapped: true,
		Cur: api.Cursor{Row: 2, Col: 3, Attr: plain}, Saved: first, SavedToo: first,
		Bottom: 2, Tabs: []bool{true, false, false, true},
		Modes: 1 + 8 + 64 + 128 + 256 + 512, Title: "té", Last: 'L',
	}
	x, e := mode.Soft(s)
	is(t, x, e, want)
	s.Modes, want.Modes = 0, 1+8
	x, e = mode.Soft(s)
	is(t, x, e, want)
}

// P12.3, P12.4: Hard is as at first, from everywhere and of all sizes.
func TestHard(t *testing.T) {
	for _, size := range sizes {
		want, _ := screen.New(size[0], size[1])
		for _, s := range placed(made(size[0], size[1])) {
			was := copied(s)
			x, e := mode.Hard(s)
			is(t, x, e, want)
			if !same(s, was) {
				t.Fatalf("it is now %+v\nnot %+v", s, was)
			}
		}
	}
	for rows := 1; rows <= api.MaxSide; rows++ {
		for _, cols := range []int{1, rows, api.MaxSide} {
			want, _ := screen.New(rows, cols)
			x, e := mode.Hard(made(rows, cols))
			is(t, x, e, want)
			x, e = mode.Hard(x)
			is(t, x, e, want)
		}
	}
}

// P12.3: Align, from everywhere.
func TestAlign(t *testing.T) {
	for _, size := range sizes {
		for _, s := range placed(made(size[0], size[1])) {
			was := copied(s)
			x, e := mode.Align(s)
			is(t, x, e, wantAlign(s))
			if !same(s, was) {
				t.Fatalf("it is now %+v\nnot %+v", s, was)
			}
		}
	}
	for _, s := range flipped(wrapping(made(api.MaxSide, api.MaxSide))) {
		s.Cur.Row, s.Top, s.Bottom = 30, 20, 35
		x, e := mode.Align(s)
		is(t, x, e, wantAlign(s))
	}
}

// wrongScreens are screens that may not be, each by another field.
func wrongScreens() []api.Screen {
	l := []api.Screen{{}}
	for _, spoiled := range []func(s *api.Screen){
		func(s *api.Screen) { s.Main.Cells = s.Main.Cells[:11] },
		func(s *api.Screen) { s.Main = gridOf(2, 4, 0) },
		func(s *api.Screen) { s.Main = gridOf(api.MaxSide+1, 4, 0) },
		func(s *api.Screen) { s.Main.Cells[5].Attr.Fg = -2 },
		func(s *api.Screen) { s.Other.Cells = append(s.Other.Cells, s.Other.Cells[0]) },
		func(s *api.Screen) { s.Other = gridOf(3, 5, 0) },
		func(s *api.Screen) { s.Other.Cells[0].Rune = '世' },
		func(s *api.Screen) { s.Other = api.Grid{} },
		func(s *api.Screen) { s.Cur.Row = 3 },
		func(s *api.Screen) { s.Cur.Row = -1 },
		func(s *api.Screen) { s.Cur.Col = 4 },
		func(s *api.Screen) { s.Cur.Col = math.MinInt },
		func(s *api.Screen) { s.Cur.Wrap = true },
		func(s *api.Screen) { s.Cur.Attr.Bg = -2 },
		func(s *api.Screen) { s.Cur.G0 = 2 },
		func(s *api.Screen) { s.Cur.G1 = -1 },
		func(s *api.Screen) { s.Cur.Shift = 2 },
		func(s *api.Screen) { s.Saved.Row = 3 },
		func(s *api.Screen) { s.Saved.Col = math.MaxInt },
		func(s *api.Screen) { s.SavedToo.Col = -1 },
		func(s *api.Screen) { s.SavedToo.Attr.Flags = 256 },
		func(s *api.Screen) { s.Top = s.Bottom },
		func(s *api.Screen) { s.Top = -1 },
		func(s *api.Screen) { s.Bottom = 3 },
		func(s *api.Screen) { s.Bottom = math.MaxInt },
		func(s *api.Screen) { s.Tabs = nil },
		func(s *api.Screen) { s.Tabs = s.Tabs[:3] },
		func(s *api.Screen) { s.Modes = 1024 },
		func(s *api.Screen) { s.Modes = -1 },
		func(s *api.Screen) { s.Title = "\x1b" },
		func(s *api.Screen) { s.Last = 0x301 },
	} {
		s := made(3, 4)
		spoiled(&s)
		l = append(l, s)
	}
	return l
}

// A call is one that tells a screen of a screen.
type call func(s api.Screen) (api.Screen, api.Errno)

// calls are all, by some numbers of each kind.
func calls() []call {
	l := []call{mode.Soft, mode.Hard, mode.Align}
	for _, on := range []bool{false, true} {
		for _, n := range []int{-1, 0, 1, 4, 5, 6, 7, 20, 25, 47, 66, 1000, 1004, 1047, 1049, 2004, api.MaxValue} {
			for _, private := range []bool{false, true} {
				l = append(l, func(s api.Screen) (api.Screen, api.Errno) { return mode.Set(s, private, n, on) })
			}
		}
	}
	for n := -1; n <= 4; n++ {
		l = append(l, func(s api.Screen) (api.Screen, api.Errno) { return mode.Margins(s, n, 3) })
		l = append(l, func(s api.Screen) (api.Screen, api.Errno) { return mode.Margins(s, 1, n) })
	}
	return l
}

// P12.1, P12.2, P12.3: screens that may not be, whatever is asked of them.
func TestWrongScreens(t *testing.T) {
	for _, s := range wrongScreens() {
		for _, s := range flipped(s) {
			was := copied(s)
			for _, c := range calls() {
				x, e := c(s)
				refused(t, x, e)
			}
			x, e := mode.Set(s, true, -2, true)
			refused(t, x, e)
			x, e = mode.Margins(s, 10000, -2)
			refused(t, x, e)
			if !same(s, was) {
				t.Errorf("it is now %+v\nnot %+v", s, was)
			}
		}
	}
}

// P12.1 to P12.4: many calls, one behind the other, on screens whose size changes.
func TestManySteps(t *testing.T) {
	seed := uint32(1)
	next := func(n int) int {
		seed = seed*1664525 + 1013904223
		return int(seed>>8) % n
	}
	numbers := []int{1, 4, 5, 6, 7, 20, 25, 47, 66, 1000, 1004, 1047, 1049, 2004, 3}
	s, e := made(5, 7), api.OK
	for range 20000 {
		want := s
		switch next(12) {
		case 0:
			s, e = screen.Resize(s, 1+next(9), 1+next(9))
			want = s
		case 1:
			s.Main, s.Other = gridOf(s.Main.Rows, s.Main.Cols, next(20)), gridOf(s.Main.Rows, s.Main.Cols, next(20))
			want = s
		case 2:
			s.Cur.Row, s.Cur.Col, s.Cur.Attr, s.Cur.G1 = next(s.Main.Rows), next(s.Main.Cols), loud, next(2)
			s.Cur.Wrap = s.Cur.Col == s.Main.Cols-1
			want = s
		case 3:
			want = wantSoft(s)
			s, e = mode.Soft(s)
		case 4:
			want = wantAlign(s)
			s, e = mode.Align(s)
		case 5:
			want, _ = screen.New(s.Main.Rows, s.Main.Cols)
			s, e = mode.Hard(s)
		case 6, 7:
			n, m := next(11)-1, next(11)-1
			want = wantMargins(s, n, m)
			s, e = mode.Margins(s, n, m)
		default:
			private, n, on := next(4) > 0, numbers[next(len(numbers))], next(2) == 0
			want = wantSet(s, private, n, on)
			s, e = mode.Set(s, private, n, on)
		}
		is(t, s, e, want)
	}
}

// spoil writes into all memory of s, its spare room too.
func spoil(s api.Screen) {
	for _, l := range [][]api.Cell{s.Main.Cells, s.Other.Cells} {
		for i := range l[:cap(l)] {
			l[:cap(l)][i] = api.Cell{Rune: '!', Attr: loud}
		}
	}
	for i := range s.Tabs[:cap(s.Tabs)] {
		s.Tabs[:cap(s.Tabs)][i] = !s.Tabs[:cap(s.Tabs)][i]
	}
}

// roomy is s in memory of its own that has room behind each list.
func roomy(s api.Screen) api.Screen {
	more := gridOf(1, 3, 9).Cells
	s.Main.Cells = slices.Concat(s.Main.Cells, more)[:len(s.Main.Cells)]
	s.Other.Cells = slices.Concat(s.Other.Cells, more)[:len(s.Other.Cells)]
	s.Tabs = slices.Concat(s.Tabs, make([]bool, 3))[:len(s.Tabs)]
	return s
}

// room is s with all that its lists have room for.
func room(s api.Screen) api.Screen {
	s.Main.Cells, s.Other.Cells, s.Tabs = s.Main.Cells[:cap(s.Main.Cells)], s.Other.Cells[:cap(s.Other.Cells)], s.Tabs[:cap(s.Tabs)]
	return s
}

// R1, R2: the same is told again, in new memory, and what is handed in stays, its room too.
func TestOwnMemory(t *testing.T) {
	for _, size := range [][2]int{{1, 1}, {3, 2}} {
		for _, s := range placed(made(size[0], size[1])) {
			for i, c := range calls() {
				given := roomy(s)
				was := copied(room(given))
				x, e := c(given)
				y, f := c(given)
				if e != api.OK || f != e || !same(x, y) {
					t.Fatalf("%d: %+v, %v, then %+v, %v", i, x, e, y, f)
				}
				kept := copied(y)
				spoil(x)
				if !same(room(given), was) {
					t.Fatalf("%d: what was handed in is now %+v", i, given)
				}
				spoil(given)
				if !same(y, kept) {
					t.Fatalf("%d: what was told is now %+v", i, y)
				}
			}
		}
	}
}

// R2: grids that are handed in as one memory come as two.
func TestGridsApart(t *testing.T) {
	for i, c := range calls() {
		for _, swapped := range []bool{false, true} {
			s := made(2, 3)
			s.Other, s.Swapped = s.Main, swapped
			x, e := c(s)
			main, other := slices.Clone(x.Main.Cells), slices.Clone(x.Other.Cells)
			clear(x.Main.Cells[:cap(x.Main.Cells)])
			if e != api.OK || !slices.Equal(x.Other.Cells, other) {
				t.Errorf("%d: %+v, %v", i, x.Other, e)
			}
			y, _ := c(s)
			clear(y.Other.Cells[:cap(y.Other.Cells)])
			if !slices.Equal(y.Main.Cells, main) {
				t.Errorf("%d: %+v", i, y.Main)
			}
		}
	}
}
