package edit_test

import (
	"math"
	"reflect"
	"slices"
	"strings"
	"testing"

	"beacon/api"
	"beacon/edit"
	"beacon/grid"
	"beacon/row"
	"beacon/screen"
)

// keys are all that Do knows.
const keys = "JKXP@LMST"

var (
	plain = api.Attr{Fg: -1, Bg: -1}
	loud  = api.Attr{Fg: 3, Bg: 256 + 1<<24 - 1, Flags: 255}
)

// one is a rune of width 1, or a blank.
func one(r int, comb string, a api.Attr) api.Cell { return api.Cell{Rune: r, Comb: comb, Attr: a} }

// two is a rune of width 2.
func two(r int, comb string, a api.Attr) []api.Cell {
	return []api.Cell{{Rune: r, Comb: comb, Wide: api.WideFirst, Attr: a}, {Wide: api.WideSecond, Attr: a}}
}

func blank(bg int) api.Cell { return one(' ', "", api.Attr{Fg: -1, Bg: bg}) }

// line is row i of some cells: marked runes, and wide ones, each with a look of its own.
func line(i, cols int) []api.Cell {
	var l []api.Cell
	for k := i; len(l) < cols; k++ {
		a := api.Attr{Fg: k % 256, Bg: 10*i + len(l), Flags: (i + k) % 256}
		if k%2 == 1 && len(l)+2 <= cols {
			l = append(l, two('世'+k, "\u0302", a)...)
			continue
		}
		l = append(l, one('a'+k%26, "\u0302", a))
	}
	return l
}

// gridOf is a grid whose rows differ, and differ from those of another first.
func gridOf(rows, cols, first int) api.Grid {
	g := api.Grid{Rows: rows, Cols: cols}
	for i := range rows {
		g.Cells = append(g.Cells, line(first+i, cols)...)
	}
	return g
}

// made is a screen of which hardly anything is as screen.New tells it, but for the margins.
func made(rows, cols int) api.Screen {
	return api.Screen{
		Main: gridOf(rows, cols, 0), Other: gridOf(rows, cols, 7),
		Cur:      api.Cursor{Attr: loud, G1: api.SetLines, Shift: 1, Origin: true},
		Saved:    api.Cursor{Row: rows / 2, Col: cols / 2, Attr: plain, G1: api.SetLines},
		SavedToo: api.Cursor{Col: cols - 1, Wrap: true, Attr: plain, Shift: 1, Origin: true},
		Bottom:   rows - 1,
		Tabs:     slices.Repeat([]bool{true, false, false}, cols)[:cols],
		Modes:    1023, Title: "té", Last: 'L',
	}
}

// of is a screen of these rows, with the cursor at a place.
func of(row, col int, wrap bool, l ...[]api.Cell) api.Screen {
	s, _ := screen.New(len(l), len(l[0]))
	s.Main.Cells = slices.Concat(l...)
	s.Cur = api.Cursor{Row: row, Col: col, Wrap: wrap, Attr: loud}
	return s
}

// copied is s in memory of its own.
func copied(s api.Screen) api.Screen {
	s.Main.Cells, s.Other.Cells, s.Tabs = slices.Clone(s.Main.Cells), slices.Clone(s.Other.Cells), slices.Clone(s.Tabs)
	return s
}

func same(a, b api.Screen) bool {
	lists := slices.Equal(a.Main.Cells, b.Main.Cells) && slices.Equal(a.Other.Cells, b.Other.Cells) && slices.Equal(a.Tabs, b.Tabs)
	a.Main.Cells, a.Other.Cells, a.Tabs = nil, nil, nil
	b.Main.Cells, b.Other.Cells, b.Tabs = nil, nil, nil
	return lists && reflect.DeepEqual(a, b)
}

// is holds an answer against what it should be, and to what may be.
func is(t *testing.T, got api.Screen, e api.Errno, want api.Screen) {
	t.Helper()
	if e != api.OK || !same(got, want) {
		t.Fatalf("%+v, %v\nnot %+v", got, e, want)
	}
	if screen.Check(got) != api.OK {
		t.Fatalf("it may not be: %+v", got)
	}
}

// refused holds an answer against ErrForm and nothing beside it.
func refused(t *testing.T, got api.Screen, e api.Errno) {
	t.Helper()
	if e != api.ErrForm || !reflect.DeepEqual(got, api.Screen{}) {
		t.Errorf("%+v, %v", got, e)
	}
}

// seen is the grid of s that is seen.
func seen(s *api.Screen) *api.Grid {
	if s.Swapped {
		return &s.Other
	}
	return &s.Main
}

// wiped tells whether key with n erases the cell at row and col, by P11.1.
func wiped(s api.Screen, key rune, n, row, col int) bool {
	at, cell, n := s.Cur.Row*s.Main.Cols+s.Cur.Col, row*s.Main.Cols+col, max(n, 0)
	if key == 'X' {
		return row == s.Cur.Row && cell >= at && cell < at+max(n, 1)
	}
	if key == 'K' && row != s.Cur.Row {
		return false
	}
	return n == 0 && cell >= at || n == 1 && cell <= at || n == 2
}

// wantWipe is what J, K and X are by their words, cell by cell; what is half of a rune then is blank, too.
func wantWipe(s api.Screen, key rune, n int) api.Screen {
	s = copied(s)
	g := seen(&s)
	was := slices.Clone(g.Cells)
	for i, c := range was {
		row, col := i/g.Cols, i%g.Cols
		switch {
		case wiped(s, key, n, row, col):
			g.Cells[i] = blank(s.Cur.Attr.Bg)
		case c.Wide == api.WideFirst && wiped(s, key, n, row, col+1), c.Wide == api.WideSecond && wiped(s, key, n, row, col-1):
			g.Cells[i] = blank(c.Attr.Bg)
		}
	}
	return s
}

// wantShift is what P and @ are; chapter 5 says what becomes of the row.
func wantShift(s api.Screen, key rune, n int) api.Screen {
	g := seen(&s)
	l, _ := grid.Row(*g, s.Cur.Row)
	if key == 'P' {
		l, _ = row.Delete(l, s.Cur.Col, n, s.Cur.Attr)
	} else {
		l, _ = row.Insert(l, s.Cur.Col, n, s.Cur.Attr)
	}
	*g, _ = grid.With(*g, s.Cur.Row, l)
	return s
}

// wantRows is what L, M, S and T are, row by row.
func wantRows(s api.Screen, key rune, n int) api.Screen {
	s = copied(s)
	top := s.Top
	if key == 'L' || key == 'M' {
		if s.Cur.Row < s.Top || s.Cur.Row > s.Bottom {
			return s
		}
		top, s.Cur.Col = s.Cur.Row, 0
	}
	if key == 'M' || key == 'S' {
		n = -n
	}
	g := seen(&s)
	was := slices.Clone(g.Cells)
	for i := top; i <= s.Bottom; i++ {
		l := slices.Repeat([]api.Cell{blank(s.Cur.Attr.Bg)}, g.Cols)
		if from := i - n; top <= from && from <= s.Bottom {
			l = was[from*g.Cols : (from+1)*g.Cols]
		}
		copy(g.Cells[i*g.Cols:], l)
	}
	return s
}

// wantDo is P11.1 by its words.
func wantDo(s api.Screen, key rune, n int) api.Screen {
	switch key {
	case 'J', 'K', 'X':
		s = wantWipe(s, key, n)
	case 'P', '@':
		s = wantShift(s, key, max(n, 1))
	default:
		s = wantRows(s, key, max(n, 1))
	}
	if key != 'S' && key != 'T' {
		s.Cur.Wrap = false
	}
	return s
}

// placed are s with its cursor at all places, both ways to wrap, all margins and either grid.
func placed(s api.Screen) []api.Screen {
	var l []api.Screen
	for top := range s.Main.Rows {
		for bottom := top; bottom < s.Main.Rows; bottom++ {
			s.Top, s.Bottom = top, bottom
			if top == bottom && s.Main.Rows > 1 {
				continue
			}
			for i := range s.Main.Rows * s.Main.Cols {
				s.Cur.Row, s.Cur.Col, s.Cur.Wrap = i/s.Main.Cols, i%s.Main.Cols, false
				l = append(l, flipped(s)...)
				if s.Cur.Col == s.Main.Cols-1 {
					s.Cur.Wrap = true
					l = append(l, flipped(s)...)
				}
			}
		}
	}
	return l
}

// flipped are s with either grid seen.
func flipped(s api.Screen) []api.Screen {
	x := s
	s.Swapped, x.Swapped = false, true
	return []api.Screen{s, x}
}

// P11.1, P11.2: all keys, at all places of small screens, by all numbers about their sizes.
func TestDoEverywhere(t *testing.T) {
	for _, size := range [][2]int{{1, 1}, {1, 2}, {1, 5}, {2, 1}, {2, 3}, {3, 2}, {4, 4}, {5, 3}} {
		for _, s := range placed(made(size[0], size[1])) {
			was := copied(s)
			for _, key := range keys {
				for n := -1; n <= max(size[0], size[1])+1; n++ {
					x, e := edit.Do(s, int(key), n)
					is(t, x, e, wantDo(s, key, n))
				}
			}
			if !same(s, was) {
				t.Fatalf("it is now %+v\nnot %+v", s, was)
			}
		}
	}
}

// P11.1: the greatest screen and the greatest numbers, and those whose lower bits are small.
func TestDoFar(t *testing.T) {
	end := api.MaxSide - 1
	for _, s := range flipped(made(api.MaxSide, api.MaxSide)) {
		for _, margins := range [][2]int{{0, end}, {1, end - 1}, {0, 1}, {end - 1, end}} {
			s.Top, s.Bottom = margins[0], margins[1]
			for _, at := range []int{0, 1, end - 1, end} {
				s.Cur.Row, s.Cur.Col, s.Cur.Wrap = at, at, at == end
				for _, key := range keys {
					for _, n := range []int{0, 1, 2, end, end + 1, end + 2, 256, 257, 258, api.MaxValue} {
						x, e := edit.Do(s, int(key), n)
						is(t, x, e, wantDo(s, key, n))
					}
				}
			}
		}
	}
}

// shown tells the rows that are seen: . for a blank with the cursor's ground, : for another, <> for a wide rune's halves.
func shown(s api.Screen) string {
	var l []string
	for row := range slices.Chunk(seen(&s).Cells, s.Main.Cols) {
		text := ""
		for _, c := range row {
			switch {
			case c == blank(s.Cur.Attr.Bg):
				text += "."
			case c == blank(c.Attr.Bg):
				text += ":"
			default:
				text += string("?<>"[c.Wide])
			}
			if c.Wide == api.WideNone && c.Rune != ' ' {
				text = text[:len(text)-1] + string(rune(c.Rune))
			}
		}
		l = append(l, text)
	}
	return strings.Join(l, "|")
}

// spelled is a screen of such rows, where < and > are halves of wide runes; the cursor's ground is loud.
func spelled(rows ...string) api.Screen {
	var l [][]api.Cell
	for i, text := range rows {
		var cells []api.Cell
		for k, r := range text {
			switch r {
			case '<':
				cells = append(cells, two('世', "\u0301", api.Attr{Fg: 1, Bg: 10*i + k, Flags: 3})...)
			case '>':
			case ':':
				cells = append(cells, blank(-1))
			default:
				cells = append(cells, one(int(r), "", plain))
			}
		}
		l = append(l, cells)
	}
	return of(0, 0, false, l...)
}

// P11.1: written out: what each key makes of four rows of four, from a place, between margins.
func TestDoWrittenOut(t *testing.T) {
	for _, c := range []struct {
		key         rune
		n           int
		row, col    int
		top, bottom int
		want        string
		at          int
	}{
		{'J', -1, 1, 1, 0, 3, "abcd|e...|....|....", 1}, {'J', 0, 1, 1, 2, 3, "abcd|e...|....|....", 1}, {'J', 0, 0, 0, 0, 3, "....|....|....|....", 0}, {'J', 0, 3, 3, 0, 3, "abcd|efgh|ijkl|mno.", 3},
		{'J', 1, 1, 1, 0, 3, "....|..gh|ijkl|mnop", 1}, {'J', 1, 2, 1, 0, 1, "....|....|..kl|mnop", 1}, {'J', 1, 0, 0, 0, 3, ".bcd|efgh|ijkl|mnop", 0}, {'J', 1, 3, 3, 0, 3, "....|....|....|....", 3},
		{'J', 2, 1, 1, 0, 3, "....|....|....|....", 1}, {'J', 2, 3, 2, 1, 2, "....|....|....|....", 2}, {'J', 3, 1, 1, 0, 3, "abcd|efgh|ijkl|mnop", 1}, {'J', 4, 1, 3, 0, 3, "abcd|efgh|ijkl|mnop", 3},
		{'K', -1, 1, 1, 0, 3, "abcd|e...|ijkl|mnop", 1}, {'K', 0, 2, 0, 0, 1, "abcd|efgh|....|mnop", 0}, {'K', 0, 1, 3, 0, 3, "abcd|efg.|ijkl|mnop", 3}, {'K', 1, 1, 2, 0, 3, "abcd|...h|ijkl|mnop", 2}, {'K', 1, 1, 3, 0, 3, "abcd|....|ijkl|mnop", 3},
		{'K', 2, 1, 1, 0, 3, "abcd|....|ijkl|mnop", 1}, {'K', 3, 1, 1, 0, 3, "abcd|efgh|ijkl|mnop", 1},
		{'X', -1, 1, 1, 0, 3, "abcd|e.gh|ijkl|mnop", 1}, {'X', 0, 1, 1, 0, 3, "abcd|e.gh|ijkl|mnop", 1}, {'X', 1, 1, 1, 0, 3, "abcd|e.gh|ijkl|mnop", 1}, {'X', 2, 1, 1, 0, 3, "abcd|e..h|ijkl|mnop", 1}, {'X', 3, 1, 1, 0, 3, "abcd|e...|ijkl|mnop", 1}, {'X', 4, 1, 1, 0, 3, "abcd|e...|ijkl|mnop", 1}, {'X', 9999, 3, 3, 0, 1, "abcd|efgh|ijkl|mno.", 3},
		{'P', -1, 1, 1, 0, 3, "abcd|egh.|ijkl|mnop", 1}, {'P', 0, 1, 1, 0, 3, "abcd|egh.|ijkl|mnop", 1}, {'P', 2, 1, 1, 0, 3, "abcd|eh..|ijkl|mnop", 1}, {'P', 3, 1, 1, 0, 3, "abcd|e...|ijkl|mnop", 1}, {'P', 9999, 3, 1, 0, 1, "abcd|efgh|ijkl|m...", 1},
		{'@', -1, 1, 1, 0, 3, "abcd|e.fg|ijkl|mnop", 1}, {'@', 0, 1, 1, 0, 3, "abcd|e.fg|ijkl|mnop", 1}, {'@', 2, 1, 1, 0, 3, "abcd|e..f|ijkl|mnop", 1}, {'@', 3, 1, 1, 0, 3, "abcd|e...|ijkl|mnop", 1}, {'@', 9999, 3, 1, 0, 1, "abcd|efgh|ijkl|m...", 1},
		{'L', -1, 1, 1, 0, 3, "abcd|....|efgh|ijkl", 0}, {'L', 0, 1, 1, 0, 2, "abcd|....|efgh|mnop", 0}, {'L', 2, 1, 1, 0, 3, "abcd|....|....|efgh", 0}, {'L', 9999, 1, 3, 1, 2, "abcd|....|....|mnop", 0}, {'L', 1, 2, 3, 1, 2, "abcd|efgh|....|mnop", 0}, {'L', 1, 0, 3, 1, 2, "abcd|efgh|ijkl|mnop", 3}, {'L', 1, 3, 2, 1, 2, "abcd|efgh|ijkl|mnop", 2},
		{'M', -1, 1, 1, 0, 3, "abcd|ijkl|mnop|....", 0}, {'M', 0, 1, 1, 0, 2, "abcd|ijkl|....|mnop", 0}, {'M', 2, 1, 1, 0, 3, "abcd|mnop|....|....", 0}, {'M', 9999, 1, 3, 1, 2, "abcd|....|....|mnop", 0}, {'M', 1, 2, 3, 1, 2, "abcd|efgh|....|mnop", 0}, {'M', 1, 0, 3, 1, 2, "abcd|efgh|ijkl|mnop", 3}, {'M', 1, 3, 2, 1, 2, "abcd|efgh|ijkl|mnop", 2},
		{'S', -1, 1, 1, 0, 3, "efgh|ijkl|mnop|....", 1}, {'S', 0, 3, 3, 0, 1, "efgh|....|ijkl|mnop", 3}, {'S', 2, 0, 2, 1, 3, "abcd|mnop|....|....", 2}, {'S', 9999, 0, 2, 1, 2, "abcd|....|....|mnop", 2},
		{'T', -1, 1, 1, 0, 3, "....|abcd|efgh|ijkl", 1}, {'T', 0, 3, 3, 0, 1, "....|abcd|ijkl|mnop", 3}, {'T', 2, 0, 2, 1, 3, "abcd|....|....|efgh", 2}, {'T', 9999, 0, 2, 1, 2, "abcd|....|....|mnop", 2},
	} {
		s := spelled("abcd", "efgh", "ijkl", "mnop")
		s.Cur.Row, s.Cur.Col, s.Top, s.Bottom = c.row, c.col, c.top, c.bottom
		s.Cur.Wrap = c.col == 3
		want := s.Cur
		want.Col, want.Wrap = c.at, s.Cur.Wrap && (c.key == 'S' || c.key == 'T')
		x, e := edit.Do(s, int(c.key), c.n)
		if e != api.OK || shown(x) != c.want || x.Cur != want {
			t.Errorf("%c of %d at %d, %d: %q, %+v, %v", c.key, c.n, c.row, c.col, shown(x), x.Cur, e)
		}
	}
}

// P11.1: written out: a half that is left alone is blank, with its own ground.
func TestHalvesWrittenOut(t *testing.T) {
	for _, c := range []struct {
		key    rune
		n, col int
		want   string
	}{
		{'J', 0, 1, ":.....|......"}, {'J', 0, 2, "<>....|......"}, {'J', 1, 0, ".:x<>y|<><><>"}, {'J', 1, 3, "....:y|<><><>"}, {'J', 1, 4, ".....y|<><><>"},
		{'K', 0, 1, ":.....|<><><>"}, {'K', 0, 4, "<>x:..|<><><>"}, {'K', 1, 0, ".:x<>y|<><><>"}, {'K', 1, 3, "....:y|<><><>"}, {'K', 2, 4, "......|<><><>"},
		{'X', 1, 0, ".:x<>y|<><><>"}, {'X', 1, 1, ":.x<>y|<><><>"}, {'X', 3, 1, ":...:y|<><><>"}, {'X', 2, 3, "<>x..y|<><><>"},
		{'P', 1, 0, ":x<>y.|<><><>"}, {'P', 1, 1, ":x<>y.|<><><>"}, {'P', 3, 1, "::y...|<><><>"}, {'P', 2, 3, "<>xy..|<><><>"},
		{'@', 1, 0, ".<>x<>|<><><>"}, {'@', 1, 1, ":.:x<>|<><><>"}, {'@', 2, 0, "..<>x:|<><><>"}, {'@', 2, 4, "<>x:..|<><><>"},
	} {
		s := spelled("<>x<>y", "<><><>")
		s.Cur.Col = c.col
		x, e := edit.Do(s, int(c.key), c.n)
		if e != api.OK || shown(x) != c.want || screen.Check(x) != api.OK {
			t.Errorf("%c of %d at %d: %q, %v", c.key, c.n, c.col, shown(x), e)
		}
	}
}

// P11.1, the example: J of 2 leaves blanks alone, and all else as it is.
func TestAllBlank(t *testing.T) {
	s := made(3, 4)
	s.Cur.Row, s.Cur.Col = 2, 1
	want := s
	want.Main.Cells = slices.Repeat([]api.Cell{blank(loud.Bg)}, 12)
	x, e := edit.Do(s, 'J', 2)
	is(t, x, e, want)
}

// P11.1: what J and K do not know changes nothing but Wrap.
func TestNothing(t *testing.T) {
	for _, s := range flipped(made(2, 3)) {
		s.Cur.Col, s.Cur.Wrap = 2, true
		want := s
		want.Cur.Wrap = false
		for _, key := range "JK" {
			for n := 3; n <= api.MaxValue; n += 1 + n/50 {
				x, e := edit.Do(s, int(key), n)
				is(t, x, e, want)
			}
			x, e := edit.Do(s, int(key), api.MaxValue)
			is(t, x, e, want)
		}
	}
}

// P11.1: Wrap is false behind all keys, though nothing else changes; S and T leave it.
func TestWrap(t *testing.T) {
	s := of(0, 0, true, []api.Cell{blank(loud.Bg)})
	for _, key := range keys {
		want := s
		want.Cur.Wrap = key == 'S' || key == 'T'
		for n := -1; n <= 3; n++ {
			x, e := edit.Do(s, int(key), n)
			is(t, x, e, want)
		}
	}
	// Beyond the margins, too.
	s = made(4, 3)
	s.Cur.Col, s.Cur.Wrap, s.Top, s.Bottom = 2, true, 1, 2
	for _, s.Cur.Row = range []int{0, 3} {
		want := s
		want.Cur.Wrap = false
		for _, key := range "LM" {
			x, e := edit.Do(s, int(key), 1)
			is(t, x, e, want)
		}
	}
}

// P11.1: keys and numbers that may not be.
func TestWrongNumbers(t *testing.T) {
	s := made(3, 4)
	for key := -300; key < 0x3000; key++ {
		if key > 0 && strings.ContainsRune(keys, rune(key)) {
			continue
		}
		x, e := edit.Do(s, key, 1)
		refused(t, x, e)
	}
	for _, key := range []int{math.MinInt, math.MaxInt, 0xfffd, 0x110000, 1<<32 + 'J', -1<<32 + 'S', 1<<16 + '@'} {
		x, e := edit.Do(s, key, 1)
		refused(t, x, e)
	}
	for _, n := range []int{-2, api.MaxValue + 1, math.MinInt, math.MaxInt, 1 << 32, 1<<32 + 1, -1<<32 + 1} {
		for _, key := range keys {
			x, e := edit.Do(s, int(key), n)
			refused(t, x, e)
		}
	}
}

// wrongScreens are screens that may not be, each by another field.
func wrongScreens() []api.Screen {
	l := []api.Screen{{}}
	for _, turn := range []func(s *api.Screen){
		func(s *api.Screen) { s.Main.Cells = s.Main.Cells[:11] },
		func(s *api.Screen) { s.Main = gridOf(2, 4, 0) },
		func(s *api.Screen) { s.Main.Cells[5].Attr.Fg = -2 },
		func(s *api.Screen) { s.Other.Cells = append(s.Other.Cells, s.Other.Cells[0]) },
		func(s *api.Screen) { s.Other = gridOf(3, 5, 0) },
		func(s *api.Screen) { s.Other.Cells[2].Rune = '世' },
		func(s *api.Screen) { s.Cur.Row = 3 },
		func(s *api.Screen) { s.Cur.Row = -1 },
		func(s *api.Screen) { s.Cur.Col = 4 },
		func(s *api.Screen) { s.Cur.Col = math.MinInt },
		func(s *api.Screen) { s.Cur.Wrap = true },
		func(s *api.Screen) { s.Cur.Attr.Bg = -2 },
		func(s *api.Screen) { s.Cur.G0 = 2 },
		func(s *api.Screen) { s.Cur.Shift = 2 },
		func(s *api.Screen) { s.Saved.Row = 3 },
		func(s *api.Screen) { s.SavedToo.Col = -1 },
		func(s *api.Screen) { s.Top = s.Bottom },
		func(s *api.Screen) { s.Top = -1 },
		func(s *api.Screen) { s.Bottom = 3 },
		func(s *api.Screen) { s.Bottom = math.MaxInt },
		func(s *api.Screen) { s.Tabs = nil },
		func(s *api.Screen) { s.Modes = 1024 },
		func(s *api.Screen) { s.Title = "\x1b" },
		func(s *api.Screen) { s.Last = 0x301 },
	} {
		s := made(3, 4)
		turn(&s)
		l = append(l, s)
	}
	return l
}

// P11.1: screens that may not be, whatever is asked of them.
func TestWrongScreens(t *testing.T) {
	for _, s := range wrongScreens() {
		for _, s := range flipped(s) {
			was := copied(s)
			for _, key := range keys + "A" {
				for n := -2; n <= 3; n++ {
					x, e := edit.Do(s, int(key), n)
					refused(t, x, e)
				}
			}
			if !same(s, was) {
				t.Errorf("it is now %+v\nnot %+v", s, was)
			}
		}
	}
}

// P11.2: many calls, one behind the other, on screens whose size changes.
func TestManySteps(t *testing.T) {
	seed := uint32(1)
	next := func(n int) int {
		seed = seed*1664525 + 1013904223
		return int(seed>>8) % n
	}
	s, e := made(5, 7), api.OK
	for range 20000 {
		want := s
		switch next(8) {
		case 0:
			s, e = screen.Resize(s, 1+next(9), 1+next(9))
			want = s
		case 1:
			s.Main, s.Other = gridOf(s.Main.Rows, s.Main.Cols, next(20)), gridOf(s.Main.Rows, s.Main.Cols, next(20))
			want = s
		case 2:
			s.Swapped, s.Cur.Row, s.Cur.Col, s.Cur.Attr.Bg = next(2) == 0, next(s.Main.Rows), next(s.Main.Cols), next(256)
			if s.Main.Rows > 2 {
				s.Top = next(2)
				s.Bottom = s.Top + 1 + next(s.Main.Rows-1-s.Top)
			}
			s.Cur.Wrap = s.Cur.Col == s.Main.Cols-1
			want = s
		default:
			key, n := rune(keys[next(len(keys))]), next(6)-1
			want = wantDo(s, key, n)
			s, e = edit.Do(s, int(key), n)
		}
		is(t, s, e, want)
	}
}

// spoil writes into all memory of s, its spare room too.
func spoil(s api.Screen) {
	for _, l := range [][]api.Cell{s.Main.Cells, s.Other.Cells} {
		for i := range l[:cap(l)] {
			l[:cap(l)][i] = api.Cell{Rune: '!', Attr: loud}
		}
	}
	for i := range s.Tabs[:cap(s.Tabs)] {
		s.Tabs[:cap(s.Tabs)][i] = !s.Tabs[:cap(s.Tabs)][i]
	}
}

// roomy is s in memory of its own that has room behind each list.
func roomy(s api.Screen) api.Screen {
	more := gridOf(1, 3, 9).Cells
	s.Main.Cells = slices.Concat(s.Main.Cells, more)[:len(s.Main.Cells)]
	s.Other.Cells = slices.Concat(s.Other.Cells, more)[:len(s.Other.Cells)]
	s.Tabs = slices.Concat(s.Tabs, make([]bool, 3))[:len(s.Tabs)]
	return s
}

// room is s with all that its lists have room for.
func room(s api.Screen) api.Screen {
	s.Main.Cells, s.Other.Cells, s.Tabs = s.Main.Cells[:cap(s.Main.Cells)], s.Other.Cells[:cap(s.Other.Cells)], s.Tabs[:cap(s.Tabs)]
	return s
}

// R1, R2: the same is told again, in new memory, and what is handed in stays, its room too.
func TestOwnMemory(t *testing.T) {
	for _, size := range [][2]int{{1, 1}, {3, 3}} {
		for _, s := range placed(made(size[0], size[1])) {
			for _, key := range keys {
				for n := range 4 {
					given := roomy(s)
					was := copied(room(given))
					x, e := edit.Do(given, int(key), n)
					y, f := edit.Do(given, int(key), n)
					if e != api.OK || f != e || !same(x, y) {
						t.Fatalf("%c: %+v, %v, then %+v, %v", key, x, e, y, f)
					}
					kept := copied(y)
					spoil(x)
					if !same(room(given), was) {
						t.Fatalf("%c: what was handed in is now %+v", key, given)
					}
					spoil(given)
					if !same(y, kept) {
						t.Fatalf("%c: what was told is now %+v", key, y)
					}
				}
			}
		}
	}
}

// R2: grids that are handed in as one memory come as two.
func TestGridsApart(t *testing.T) {
	for _, key := range keys {
		for n := range 4 {
			s := made(2, 3)
			s.Other = s.Main
			x, e := edit.Do(s, int(key), n)
			clear(x.Main.Cells[:cap(x.Main.Cells)])
			if e != api.OK || !slices.Equal(x.Other.Cells, gridOf(2, 3, 0).Cells) {
				t.Errorf("%c: %+v, %v", key, x.Other, e)
			}
		}
	}
}
