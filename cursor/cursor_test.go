package cursor_test

import (
	"math"
	"reflect"
	"slices"
	"strings"
	"testing"

	"beacon/api"
	"beacon/cursor"
	"beacon/screen"
	"beacon/tabs"
)

// keys are all that Move knows.
const keys = "ABCDEFGdHIZ"

var (
	plain = api.Attr{Fg: -1, Bg: -1}
	loud  = api.Attr{Fg: 3, Bg: 256 + 1<<24 - 1, Flags: 255}
)

// gridOf is a grid whose cells differ, and differ from those of another first.
func gridOf(rows, cols, first int) api.Grid {
	g := api.Grid{Rows: rows, Cols: cols}
	for i := range rows * cols {
		g.Cells = append(g.Cells, api.Cell{Rune: 'a' + (first+i)%26, Comb: "\u0301", Attr: api.Attr{Fg: i % 256, Bg: first, Flags: i % 256}})
	}
	return g
}

// made is a screen of which hardly anything is as screen.New tells it, but for the margins.
func made(rows, cols int) api.Screen {
	return api.Screen{
		Main: gridOf(rows, cols, 0), Other: gridOf(rows, cols, 7),
		Cur:      api.Cursor{Attr: loud, G1: api.SetLines, Shift: 1},
		Saved:    api.Cursor{Row: rows / 2, Col: cols / 2, Attr: plain, G0: api.SetLines},
		SavedToo: api.Cursor{Col: cols - 1, Wrap: true, Attr: loud, Shift: 1, Origin: true},
		Bottom:   rows - 1,
		Tabs:     slices.Repeat([]bool{true, false, false}, cols)[:cols],
		Modes:    1023, Title: "té", Last: 'L',
	}
}

// copied is s in memory of its own.
func copied(s api.Screen) api.Screen {
	s.Main.Cells, s.Other.Cells, s.Tabs = slices.Clone(s.Main.Cells), slices.Clone(s.Other.Cells), slices.Clone(s.Tabs)
	return s
}

func same(a, b api.Screen) bool {
	lists := slices.Equal(a.Main.Cells, b.Main.Cells) && slices.Equal(a.Other.Cells, b.Other.Cells) && slices.Equal(a.Tabs, b.Tabs)
	a.Main.Cells, a.Other.Cells, a.Tabs = nil, nil, nil
	b.Main.Cells, b.Other.Cells, b.Tabs = nil, nil, nil
	return lists && reflect.DeepEqual(a, b)
}

// is holds an answer against what it should be, and to P10.3.
func is(t *testing.T, got api.Screen, e api.Errno, want api.Screen) {
	t.Helper()
	if e != api.OK || !same(got, want) {
		t.Fatalf("%+v, %v\nnot %+v", got, e, want)
	}
	c := got.Cur
	if c.Row < 0 || c.Row >= got.Main.Rows || c.Col < 0 || c.Col >= got.Main.Cols || screen.Check(got) != api.OK {
		t.Fatalf("it is not within: %+v", got)
	}
}

// refused holds an answer against ErrForm and nothing beside it.
func refused(t *testing.T, got api.Screen, e api.Errno) {
	t.Helper()
	if e != api.ErrForm || !reflect.DeepEqual(got, api.Screen{}) {
		t.Errorf("%+v, %v", got, e)
	}
}

// upTo goes n times by step from at, but stays where it stands at the edge.
func upTo(at, step, n, edge int) int {
	for ; n > 0 && at != edge; n-- {
		at += step
	}
	return at
}

// wantMove is P10.1 by its words; chapter 7 says where stops are.
func wantMove(s api.Screen, key rune, n, m int) api.Screen {
	if n <= 0 {
		n = 1
	}
	if m <= 0 {
		m = 1
	}
	end, c := s.Main.Cols-1, &s.Cur
	above, below := 0, s.Main.Rows-1
	if c.Row >= s.Top {
		above = s.Top
	}
	if c.Row <= s.Bottom {
		below = s.Bottom
	}
	first, last := 0, s.Main.Rows-1
	if c.Origin {
		first, last = s.Top, s.Bottom
	}
	if strings.ContainsRune("AF", key) {
		c.Row = upTo(c.Row, -1, n, above)
	}
	if strings.ContainsRune("BE", key) {
		c.Row = upTo(c.Row, 1, n, below)
	}
	if strings.ContainsRune("dH", key) {
		c.Row = upTo(first, 1, n-1, last)
	}
	switch key {
	case 'C':
		c.Col = upTo(c.Col, 1, n, end)
	case 'D':
		c.Col = upTo(c.Col, -1, n, 0)
	case 'E', 'F':
		c.Col = 0
	case 'G':
		c.Col = upTo(0, 1, n-1, end)
	case 'H':
		c.Col = upTo(0, 1, m-1, end)
	case 'I':
		c.Col, _ = tabs.Next(s.Tabs, c.Col, n)
	case 'Z':
		c.Col, _ = tabs.Back(s.Tabs, c.Col, n)
	}
	c.Wrap = false
	return s
}

// placed are s with its cursor at all places, both ways to wrap and to count, and all margins, of either grid.
func placed(s api.Screen) []api.Screen {
	var l []api.Screen
	for top := range s.Main.Rows {
		for bottom := top; bottom < s.Main.Rows; bottom++ {
			s.Top, s.Bottom = top, bottom
			if top == bottom && s.Main.Rows > 1 {
				continue
			}
			for i := range s.Main.Rows * s.Main.Cols {
				s.Cur.Row, s.Cur.Col, s.Cur.Wrap = i/s.Main.Cols, i%s.Main.Cols, false
				l = append(l, flagged(s)...)
				if s.Cur.Col == s.Main.Cols-1 {
					s.Cur.Wrap = true
					l = append(l, flagged(s)...)
				}
			}
		}
	}
	return l
}

// flagged are s by Origin and Swapped.
func flagged(s api.Screen) []api.Screen {
	var l []api.Screen
	for bits := range 4 {
		s.Cur.Origin, s.Swapped = bits&1 != 0, bits&2 != 0
		l = append(l, s)
	}
	return l
}

// P10.1: all keys, from all places of small screens, by all numbers about their sizes.
func TestMoveEverywhere(t *testing.T) {
	for _, size := range [][2]int{{1, 1}, {1, 4}, {2, 1}, {2, 2}, {4, 3}, {5, 2}} {
		for _, s := range placed(made(size[0], size[1])) {
			was := copied(s)
			for _, key := range keys {
				for n := -1; n <= max(size[0], size[1])+1; n++ {
					x, e := cursor.Move(s, int(key), n, 2)
					is(t, x, e, wantMove(s, key, n, 2))
				}
			}
			if !same(s, was) {
				t.Fatalf("it is now %+v\nnot %+v", s, was)
			}
		}
	}
}

// P10.1: H is of two numbers; of the other keys the second one is nothing.
func TestMoveSecondNumber(t *testing.T) {
	for _, s := range flagged(made(4, 5)) {
		s.Cur.Row, s.Cur.Col, s.Top, s.Bottom = 2, 3, 1, 2
		for _, key := range keys {
			for n := -1; n <= 6; n++ {
				for _, m := range []int{-1, 0, 1, 2, 3, 4, 5, 6, api.MaxValue} {
					x, e := cursor.Move(s, int(key), n, m)
					is(t, x, e, wantMove(s, key, n, m))
				}
			}
		}
	}
}

// P10.1: the greatest screen and the greatest numbers, and those whose lower bits are small.
func TestMoveFar(t *testing.T) {
	end := api.MaxSide - 1
	for _, s := range flagged(made(api.MaxSide, api.MaxSide)) {
		for _, margins := range [][2]int{{0, end}, {1, end - 1}, {0, 1}, {end - 1, end}} {
			s.Top, s.Bottom = margins[0], margins[1]
			for _, at := range []int{0, 1, 20, end - 1, end} {
				s.Cur.Row, s.Cur.Col, s.Cur.Wrap = at, at, at == end
				for _, key := range keys {
					for _, n := range []int{1, end, end + 1, end + 2, 255, 256, 257, 513, api.MaxValue} {
						x, e := cursor.Move(s, int(key), n, n)
						is(t, x, e, wantMove(s, key, n, n))
					}
				}
			}
		}
	}
}

// P10.1: written out, on six rows of eight columns from row 3 and column 4: -1, 0 and 1 are one.
func TestMoveWrittenOut(t *testing.T) {
	for _, c := range []struct {
		key         rune
		n, m        int
		top, bottom int
		origin      bool
		row, col    int
	}{
		{'A', -1, -1, 0, 5, false, 2, 4}, {'A', 0, -1, 0, 5, false, 2, 4}, {'A', 1, -1, 0, 5, false, 2, 4}, {'A', 3, -1, 0, 5, false, 0, 4}, {'A', 4, -1, 0, 5, false, 0, 4},
		{'B', -1, -1, 0, 5, false, 4, 4}, {'B', 0, -1, 0, 5, false, 4, 4}, {'B', 1, -1, 0, 5, false, 4, 4}, {'B', 2, -1, 0, 5, false, 5, 4}, {'B', 3, -1, 0, 5, false, 5, 4},
		// Within the margins, at each of them, and beyond.
		{'A', 9, -1, 2, 5, false, 2, 4}, {'A', 9, -1, 3, 5, false, 3, 4}, {'A', 2, -1, 4, 5, false, 1, 4}, {'A', 9, -1, 4, 5, false, 0, 4}, {'A', 9, -1, 0, 2, false, 0, 4}, {'A', 9, -1, 1, 2, false, 1, 4}, {'A', 1, -1, 1, 2, false, 2, 4},
		{'B', 9, -1, 0, 4, false, 4, 4}, {'B', 9, -1, 0, 3, false, 3, 4}, {'B', 1, -1, 0, 2, false, 4, 4}, {'B', 9, -1, 0, 2, false, 5, 4}, {'B', 9, -1, 4, 5, false, 5, 4}, {'B', 1, -1, 4, 5, false, 4, 4}, {'B', 9, -1, 0, 1, true, 5, 4},
		{'C', 0, -1, 0, 5, false, 3, 5}, {'C', 3, -1, 0, 5, false, 3, 7}, {'C', 4, -1, 0, 5, false, 3, 7}, {'C', 2, -1, 4, 5, true, 3, 6},
		{'D', 0, -1, 0, 5, false, 3, 3}, {'D', 4, -1, 0, 5, false, 3, 0}, {'D', 5, -1, 0, 5, false, 3, 0}, {'D', 2, -1, 4, 5, true, 3, 2},
		{'E', 0, 7, 0, 5, false, 4, 0}, {'E', 9, 7, 0, 4, false, 4, 0}, {'E', 9, 7, 0, 2, false, 5, 0},
		{'F', 0, 7, 0, 5, false, 2, 0}, {'F', 9, 7, 2, 5, false, 2, 0}, {'F', 9, 7, 4, 5, false, 0, 0},
		{'G', -1, 7, 0, 5, false, 3, 0}, {'G', 0, 7, 0, 5, false, 3, 0}, {'G', 2, 7, 0, 5, false, 3, 1}, {'G', 8, 7, 0, 5, false, 3, 7}, {'G', 9, 7, 0, 5, false, 3, 7}, {'G', 2, 7, 4, 5, true, 3, 1},
		{'d', -1, 7, 0, 5, false, 0, 4}, {'d', 0, 7, 1, 4, false, 0, 4}, {'d', 2, 7, 0, 5, false, 1, 4}, {'d', 6, 7, 0, 4, false, 5, 4}, {'d', 7, 7, 0, 5, false, 5, 4},
		{'d', -1, 7, 1, 4, true, 1, 4}, {'d', 0, 7, 1, 4, true, 1, 4}, {'d', 2, 7, 1, 4, true, 2, 4}, {'d', 4, 7, 1, 4, true, 4, 4}, {'d', 5, 7, 1, 4, true, 4, 4}, {'d', 6, 7, 0, 5, true, 5, 4},
		// The example: H of 2, 3.
		{'H', 2, 3, 0, 5, false, 1, 2},
		{'H', -1, -1, 1, 4, false, 0, 0}, {'H', 0, 0, 1, 4, false, 0, 0}, {'H', 6, 8, 1, 4, false, 5, 7}, {'H', 7, 9, 1, 4, false, 5, 7}, {'H', 2, -1, 0, 5, false, 1, 0}, {'H', -1, 2, 0, 5, false, 0, 1},
		{'H', -1, -1, 1, 4, true, 1, 0}, {'H', 2, 3, 1, 4, true, 2, 2}, {'H', 4, 8, 1, 4, true, 4, 7}, {'H', 9, 9, 1, 4, true, 4, 7},
		// Stops are at 0, 3 and 6.
		{'I', -1, -1, 0, 5, false, 3, 6}, {'I', 0, -1, 0, 5, false, 3, 6}, {'I', 1, -1, 0, 5, false, 3, 6}, {'I', 2, -1, 0, 5, false, 3, 7}, {'I', 9999, -1, 0, 5, true, 3, 7},
		{'Z', -1, -1, 0, 5, false, 3, 3}, {'Z', 0, -1, 0, 5, false, 3, 3}, {'Z', 1, -1, 0, 5, false, 3, 3}, {'Z', 2, -1, 0, 5, false, 3, 0}, {'Z', 9999, -1, 0, 5, true, 3, 0},
	} {
		s := made(6, 8)
		s.Cur.Row, s.Cur.Col, s.Cur.Origin, s.Top, s.Bottom = 3, 4, c.origin, c.top, c.bottom
		want := s
		want.Cur.Row, want.Cur.Col = c.row, c.col
		x, e := cursor.Move(s, int(c.key), c.n, c.m)
		is(t, x, e, want)
	}
}

// P10.1: all ways to set stops of few columns.
func TestMoveTabs(t *testing.T) {
	s := made(1, 5)
	for bits := range 1 << 5 {
		for i := range s.Tabs {
			s.Tabs[i] = bits>>i&1 != 0
		}
		for at := range 5 {
			s.Cur.Col, s.Cur.Wrap = at, at == 4
			for n := -1; n <= 6; n++ {
				for _, key := range "IZ" {
					x, e := cursor.Move(s, int(key), n, -1)
					is(t, x, e, wantMove(s, key, n, -1))
				}
			}
		}
	}
}

// P10.1: Wrap is false in any case, though the cursor stays where it is.
func TestMoveEndsWrap(t *testing.T) {
	s := made(1, 1)
	s.Cur.Wrap = true
	want := s
	want.Cur.Wrap = false
	for _, key := range keys {
		x, e := cursor.Move(s, int(key), 1, 1)
		is(t, x, e, want)
	}
}

// P10.1: keys and numbers that may not be.
func TestMoveWrongNumbers(t *testing.T) {
	s := made(3, 4)
	for key := -300; key < 0x3000; key++ {
		if key > 0 && strings.ContainsRune(keys, rune(key)) {
			continue
		}
		x, e := cursor.Move(s, key, 1, 1)
		refused(t, x, e)
	}
	for _, key := range []int{math.MinInt, math.MaxInt, 0xfffd, 0x110000, 1<<32 + 'A', 1<<32 + 'E', -1<<32 + 'H', 1<<16 + 'd'} {
		x, e := cursor.Move(s, key, 1, 1)
		refused(t, x, e)
	}
	for _, n := range []int{-2, api.MaxValue + 1, math.MinInt, math.MaxInt, 1 << 32, 1<<32 + 1, -1<<32 + 1} {
		for _, key := range keys {
			x, e := cursor.Move(s, int(key), n, 1)
			refused(t, x, e)
			x, e = cursor.Move(s, int(key), 1, n)
			refused(t, x, e)
			x, e = cursor.Move(s, int(key), n, n)
			refused(t, x, e)
		}
	}
}

// P10.2: Home, from everywhere.
func TestHome(t *testing.T) {
	for _, size := range [][2]int{{1, 1}, {1, 3}, {3, 1}, {4, 3}} {
		for _, s := range placed(made(size[0], size[1])) {
			want := s
			want.Cur.Row, want.Cur.Col, want.Cur.Wrap = 0, 0, false
			if s.Cur.Origin {
				want.Cur.Row = s.Top
			}
			x, e := cursor.Home(s)
			is(t, x, e, want)
			y, e := cursor.Move(s, 'H', 1, 1)
			is(t, y, e, x)
		}
	}
}

// P10.2: Save and Restore, of all of a cursor, by the grid that is seen.
func TestSaveRestore(t *testing.T) {
	for _, size := range [][2]int{{1, 1}, {1, 3}, {3, 1}, {3, 4}} {
		for _, s := range placed(made(size[0], size[1])) {
			was := copied(s)
			saved, restored := s, s
			if s.Swapped {
				saved.SavedToo, restored.Cur = s.Cur, s.SavedToo
			} else {
				saved.Saved, restored.Cur = s.Cur, s.Saved
			}
			x, e := cursor.Save(s)
			is(t, x, e, saved)
			y, e := cursor.Restore(s)
			is(t, y, e, restored)
			// What is saved comes back from wherever the cursor went.
			z, e := cursor.Home(x)
			if e != api.OK {
				t.Fatal(e)
			}
			z.Cur.Attr, z.Cur.G0, z.Cur.Shift, z.Cur.Origin = plain, api.SetLines, 0, false
			z, e = cursor.Restore(z)
			is(t, z, e, saved)
			if !same(s, was) {
				t.Fatalf("it is now %+v\nnot %+v", s, was)
			}
		}
	}
}

// P10.2: a new screen's saved cursors are as its cursor is, of both grids.
func TestRestoreAtFirst(t *testing.T) {
	s, _ := screen.New(3, 4)
	for _, swapped := range []bool{false, true} {
		want := s
		want.Swapped = swapped
		x := want
		x.Cur = api.Cursor{Row: 2, Col: 3, Wrap: true, Attr: loud, G0: 1, G1: 1, Shift: 1, Origin: true}
		x, e := cursor.Restore(x)
		is(t, x, e, want)
	}
}

// P10.3: many calls, one behind the other, on screens whose size changes.
func TestManySteps(t *testing.T) {
	seed := uint32(1)
	next := func(n int) int {
		seed = seed*1664525 + 1013904223
		return int(seed>>8) % n
	}
	s := made(5, 7)
	for range 20000 {
		want, e := s, api.OK
		switch k := next(20); k {
		case 0:
			want = wantMove(s, 'H', 1, 1)
			s, e = cursor.Home(s)
		case 1:
			if want.Saved = s.Cur; s.Swapped {
				want.Saved, want.SavedToo = s.Saved, s.Cur
			}
			s, e = cursor.Save(s)
		case 2:
			if want.Cur = s.Saved; s.Swapped {
				want.Cur = s.SavedToo
			}
			s, e = cursor.Restore(s)
		case 3:
			s, e = screen.Resize(s, 1+next(9), 1+next(9))
			want = s
		case 4:
			if s.Swapped, s.Cur.Origin = next(2) == 0, next(2) == 0; s.Main.Rows > 2 {
				s.Top = next(2)
				s.Bottom = s.Top + 1 + next(s.Main.Rows-1-s.Top)
			}
			s.Cur.Wrap = s.Cur.Col == s.Main.Cols-1
			want = s
		default:
			key, n, m := rune(keys[next(len(keys))]), next(10)-1, next(10)-1
			want = wantMove(s, key, n, m)
			s, e = cursor.Move(s, int(key), n, m)
		}
		is(t, s, e, want)
	}
}

// wrongScreens are screens that may not be, each by another field.
func wrongScreens() []api.Screen {
	l := []api.Screen{{}}
	for _, turn := range []func(s *api.Screen){
		func(s *api.Screen) { s.Main.Cells = s.Main.Cells[:11] },
		func(s *api.Screen) { s.Main = gridOf(2, 4, 0) },
		func(s *api.Screen) { s.Main.Cells[5].Attr.Fg = -2 },
		func(s *api.Screen) { s.Other.Cells = append(s.Other.Cells, s.Other.Cells[0]) },
		func(s *api.Screen) { s.Other = gridOf(3, 5, 0) },
		func(s *api.Screen) { s.Other.Cells[0].Rune = '世' },
		func(s *api.Screen) { s.Cur.Row = 3 },
		func(s *api.Screen) { s.Cur.Row = -1 },
		func(s *api.Screen) { s.Cur.Col = 4 },
		func(s *api.Screen) { s.Cur.Col = math.MinInt },
		func(s *api.Screen) { s.Cur.Wrap = true },
		func(s *api.Screen) { s.Cur.Attr.Bg = -2 },
		func(s *api.Screen) { s.Cur.G0 = 2 },
		func(s *api.Screen) { s.Cur.G1 = -1 },
		func(s *api.Screen) { s.Cur.Shift = 2 },
		func(s *api.Screen) { s.Saved.Row = 3 },
		func(s *api.Screen) { s.Saved.Col = math.MaxInt },
		func(s *api.Screen) { s.SavedToo.Col = -1 },
		func(s *api.Screen) { s.SavedToo.Row = 3 },
		func(s *api.Screen) { s.Top = s.Bottom },
		func(s *api.Screen) { s.Top = -1 },
		func(s *api.Screen) { s.Bottom = 3 },
		func(s *api.Screen) { s.Bottom = math.MaxInt },
		func(s *api.Screen) { s.Tabs = nil },
		func(s *api.Screen) { s.Tabs = s.Tabs[:3] },
		func(s *api.Screen) { s.Modes = 1024 },
		func(s *api.Screen) { s.Title = "\x1b" },
		func(s *api.Screen) { s.Last = 0x301 },
	} {
		s := made(3, 4)
		turn(&s)
		l = append(l, s)
	}
	return l
}

// P10.1, P10.2: screens that may not be, whatever is asked of them.
func TestWrongScreens(t *testing.T) {
	for _, s := range wrongScreens() {
		for _, s := range flagged(s) {
			was := copied(s)
			for _, call := range calls() {
				x, e := call(s)
				refused(t, x, e)
			}
			x, e := cursor.Move(s, 'J', -2, 10000)
			refused(t, x, e)
			if !same(s, was) {
				t.Errorf("it is now %+v\nnot %+v", s, was)
			}
		}
	}
}

// calls are all that tell screens.
func calls() []func(s api.Screen) (api.Screen, api.Errno) {
	l := []func(s api.Screen) (api.Screen, api.Errno){cursor.Home, cursor.Save, cursor.Restore}
	for _, key := range keys {
		l = append(l, func(s api.Screen) (api.Screen, api.Errno) { return cursor.Move(s, int(key), 2, 2) })
	}
	return l
}

// spoil writes into all memory of s, its spare room too.
func spoil(s api.Screen) {
	for _, l := range [][]api.Cell{s.Main.Cells, s.Other.Cells} {
		for i := range l[:cap(l)] {
			l[:cap(l)][i] = api.Cell{Rune: '!', Attr: loud}
		}
	}
	for i := range s.Tabs[:cap(s.Tabs)] {
		s.Tabs[:cap(s.Tabs)][i] = !s.Tabs[:cap(s.Tabs)][i]
	}
}

// roomy is s in memory of its own that has room behind each list.
func roomy(s api.Screen) api.Screen {
	more := gridOf(1, 3, 9).Cells
	s.Main.Cells = slices.Concat(s.Main.Cells, more)[:len(s.Main.Cells)]
	s.Other.Cells = slices.Concat(s.Other.Cells, more)[:len(s.Other.Cells)]
	s.Tabs = slices.Concat(s.Tabs, make([]bool, 3))[:len(s.Tabs)]
	return s
}

// room is s with all that its lists have room for.
func room(s api.Screen) api.Screen {
	s.Main.Cells, s.Other.Cells, s.Tabs = s.Main.Cells[:cap(s.Main.Cells)], s.Other.Cells[:cap(s.Other.Cells)], s.Tabs[:cap(s.Tabs)]
	return s
}

// R1, R2: the same is told again, in new memory, and what is handed in stays, its room too.
func TestOwnMemory(t *testing.T) {
	for _, size := range [][2]int{{1, 1}, {3, 3}} {
		for _, s := range placed(made(size[0], size[1])) {
			for i, call := range calls() {
				given := roomy(s)
				was := copied(room(given))
				x, e := call(given)
				y, f := call(given)
				if e != api.OK || f != e || !same(x, y) {
					t.Fatalf("%d: %+v, %v, then %+v, %v", i, x, e, y, f)
				}
				kept := copied(y)
				spoil(x)
				if !same(room(given), was) {
					t.Fatalf("%d: what was handed in is now %+v", i, given)
				}
				spoil(given)
				if !same(y, kept) {
					t.Fatalf("%d: what was told is now %+v", i, y)
				}
			}
		}
	}
}

// R2: grids that are handed in as one memory come as two.
func TestGridsApart(t *testing.T) {
	for i, call := range calls() {
		s := made(2, 3)
		s.Other = s.Main
		x, e := call(s)
		clear(x.Main.Cells[:cap(x.Main.Cells)])
		if e != api.OK || !slices.Equal(x.Other.Cells, gridOf(2, 3, 0).Cells) {
			t.Errorf("%d: %+v, %v", i, x.Other, e)
		}
	}
}
