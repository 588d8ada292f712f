package print_test

import (
	"math"
	"reflect"
	"slices"
	"testing"

	"beacon/api"
	"beacon/grid"
	"beacon/print"
	"beacon/row"
	"beacon/screen"
	"beacon/width"
)

const acute, grave = 0x301, 0x300

var (
	plain = api.Attr{Fg: -1, Bg: -1}
	loud  = api.Attr{Fg: 3, Bg: 256 + 1<<24 - 1, Flags: 255}
)

// linesSet are what the set of lines has from 0x60 on.
var linesSet = []int{
	0x25c6, 0x2592, 0x2409, 0x240c, 0x240d, 0x240a, 0xb0, 0xb1, 0x2424, 0x240b, 0x2518, 0x2510, 0x250c, 0x2514, 0x253c, 0x23ba,
	0x23bb, 0x2500, 0x23bc, 0x23bd, 0x251c, 0x2524, 0x2534, 0x252c, 0x2502, 0x2264, 0x2265, 0x3c0, 0x2260, 0xa3, 0xb7,
}

// one is a rune of width 1, or a blank.
func one(r int, comb string, a api.Attr) api.Cell { return api.Cell{Rune: r, Comb: comb, Attr: a} }

// two is a rune of width 2.
func two(r int, comb string, a api.Attr) []api.Cell {
	return []api.Cell{{Rune: r, Comb: comb, Wide: api.WideFirst, Attr: a}, {Wide: api.WideSecond, Attr: a}}
}

func blank(bg int) api.Cell { return one(' ', "", api.Attr{Fg: -1, Bg: bg}) }

// line is row i of some cells: marked runes, and wide ones, each with a look of its own.
func line(i, cols int) []api.Cell {
	var l []api.Cell
	for k := i; len(l) < cols; k++ {
		a := api.Attr{Fg: k % 256, Bg: 10*i + len(l), Flags: (i + k) % 256}
		if k%2 == 1 && len(l)+2 <= cols {
			l = append(l, two('世'+k, "\u0302", a)...)
			continue
		}
		l = append(l, one('a'+k%26, "\u0302", a))
	}
	return l
}

// gridOf is a grid whose rows differ, and differ from those of another first.
func gridOf(rows, cols, first int) api.Grid {
	g := api.Grid{Rows: rows, Cols: cols}
	for i := range rows {
		g.Cells = append(g.Cells, line(first+i, cols)...)
	}
	return g
}

// made is a screen of which hardly anything is as screen.New tells it, but for the margins.
func made(rows, cols int) api.Screen {
	return api.Screen{
		Main: gridOf(rows, cols, 0), Other: gridOf(rows, cols, 7),
		Cur:      api.Cursor{Attr: loud, G1: api.SetLines, Origin: true},
		Saved:    api.Cursor{Row: rows / 2, Col: cols / 2, Attr: plain, G1: api.SetLines},
		SavedToo: api.Cursor{Col: cols - 1, Wrap: true, Attr: loud, Shift: 1, Origin: true},
		Bottom:   rows - 1,
		Tabs:     slices.Repeat([]bool{true, false, false}, cols)[:cols],
		Modes:    1023 &^ api.ModeInsert, Title: "té", Last: 'L',
	}
}

// of is a screen of these rows, with the cursor at a place.
func of(row, col int, wrap bool, l ...[]api.Cell) api.Screen {
	s, _ := screen.New(len(l), len(l[0]))
	s.Main.Cells = slices.Concat(l...)
	s.Cur = api.Cursor{Row: row, Col: col, Wrap: wrap, Attr: loud}
	return s
}

// copied is s in memory of its own.
func copied(s api.Screen) api.Screen {
	s.Main.Cells, s.Other.Cells, s.Tabs = slices.Clone(s.Main.Cells), slices.Clone(s.Other.Cells), slices.Clone(s.Tabs)
	return s
}

func same(a, b api.Screen) bool {
	grids := slices.Equal(a.Main.Cells, b.Main.Cells) && slices.Equal(a.Other.Cells, b.Other.Cells) && slices.Equal(a.Tabs, b.Tabs)
	a.Main.Cells, a.Other.Cells, a.Tabs = nil, nil, nil
	b.Main.Cells, b.Other.Cells, b.Tabs = nil, nil, nil
	return grids && reflect.DeepEqual(a, b)
}

// is holds an answer against what it should be, and to P9.3.
func is(t *testing.T, got api.Screen, e api.Errno, want api.Screen) {
	t.Helper()
	if e != api.OK || !same(got, want) {
		t.Fatalf("%+v, %v\nnot %+v", got, e, want)
	}
	if screen.Check(got) != api.OK {
		t.Fatalf("it may not be: %+v", got)
	}
}

// refused holds an answer against ErrForm and nothing beside it.
func refused(t *testing.T, got api.Screen, e api.Errno) {
	t.Helper()
	if e != api.ErrForm || !reflect.DeepEqual(got, api.Screen{}) {
		t.Errorf("%+v, %v", got, e)
	}
}

// seen is the grid of s that is seen.
func seen(s *api.Screen) *api.Grid {
	if s.Swapped {
		return &s.Other
	}
	return &s.Main
}

// wantDown is P9.2 by its words; chapter 6 says what becomes of the grid.
func wantDown(s api.Screen) api.Screen {
	if s.Cur.Row == s.Bottom {
		*seen(&s), _ = grid.Up(*seen(&s), s.Top, s.Bottom, 1, s.Cur.Attr)
	} else if s.Cur.Row < s.Main.Rows-1 {
		s.Cur.Row++
	}
	s.Cur.Wrap = false
	return s
}

// wantBack likewise.
func wantBack(s api.Screen) api.Screen {
	if s.Cur.Row == s.Top {
		*seen(&s), _ = grid.Down(*seen(&s), s.Top, s.Bottom, 1, s.Cur.Attr)
	} else if s.Cur.Row > 0 {
		s.Cur.Row--
	}
	s.Cur.Wrap = false
	return s
}

// withRow is s with l for the cursor's row.
func withRow(s api.Screen, l []api.Cell) api.Screen {
	*seen(&s), _ = grid.With(*seen(&s), s.Cur.Row, l)
	return s
}

// wantMark is what P9.1 says of width 0; chapter 5 says what becomes of the row.
func wantMark(s api.Screen, r int) api.Screen {
	l, _ := grid.Row(*seen(&s), s.Cur.Row)
	switch {
	case s.Cur.Wrap:
		l, _ = row.Comb(l, s.Cur.Col, r)
	case s.Cur.Col > 0:
		l, _ = row.Comb(l, s.Cur.Col-1, r)
	}
	return withRow(s, l)
}

// wantRune is P9.1 by its words, in their order.
func wantRune(s api.Screen, told int) api.Screen {
	r, set := told, []int{s.Cur.G0, s.Cur.G1}[s.Cur.Shift]
	if set == api.SetLines && 0x60 <= r && r <= 0x7e {
		r = linesSet[r-0x60]
	}
	n, wraps, was := width.Of(r), s.Modes&api.ModeWrap != 0, s
	if n == 0 {
		return wantMark(s, r)
	}
	if n == 2 && s.Main.Cols == 1 {
		return was
	}
	if s.Cur.Wrap && wraps {
		s = wantDown(s)
		s.Cur.Col = 0
	}
	if n == 2 && s.Cur.Col == s.Main.Cols-1 {
		if !wraps {
			return was
		}
		s = wantDown(s)
		s.Cur.Col = 0
	}
	s.Cur.Wrap = false
	l, _ := grid.Row(*seen(&s), s.Cur.Row)
	if s.Modes&api.ModeInsert != 0 {
		l, _ = row.Insert(l, s.Cur.Col, n, s.Cur.Attr)
	}
	l, _ = row.Put(l, s.Cur.Col, r, s.Cur.Attr)
	s = withRow(s, l)
	s.Cur.Col += n
	if s.Cur.Col > s.Main.Cols-1 {
		s.Cur.Col, s.Cur.Wrap = s.Main.Cols-1, wraps
	}
	s.Last = told
	return s
}

// placed are s with its cursor at all places, both ways to wrap and all margins.
func placed(s api.Screen) []api.Screen {
	var l []api.Screen
	for top := range s.Main.Rows {
		for bottom := top; bottom < s.Main.Rows; bottom++ {
			s.Top, s.Bottom = top, bottom
			if top == bottom && s.Main.Rows > 1 {
				continue
			}
			for i := range s.Main.Rows * s.Main.Cols {
				s.Cur.Row, s.Cur.Col, s.Cur.Wrap = i/s.Main.Cols, i%s.Main.Cols, false
				l = append(l, s)
				if s.Cur.Col == s.Main.Cols-1 {
					s.Cur.Wrap = true
					l = append(l, s)
				}
			}
		}
	}
	return l
}

// moded are s with all that a rune asks of Modes, and each grid.
func moded(s api.Screen) []api.Screen {
	var l []api.Screen
	for _, modes := range []int{0, api.ModeWrap, api.ModeInsert, api.ModeWrap | api.ModeInsert, 1023, 1023 &^ api.ModeWrap, 1023 &^ api.ModeInsert} {
		for _, swapped := range []bool{false, true} {
			s.Modes, s.Swapped = modes, swapped
			l = append(l, s)
		}
	}
	return l
}

// P9.1: runes of all widths, at all places of small screens.
func TestRuneEverywhere(t *testing.T) {
	for rows := 1; rows <= 4; rows++ {
		for cols := 1; cols <= 5; cols++ {
			for _, s := range moded(made(rows, cols)) {
				for _, s := range placed(s) {
					was := copied(s)
					for _, r := range []int{'q', ' ', '界', acute} {
						x, e := print.Rune(s, r)
						is(t, x, e, wantRune(s, r))
					}
					if !same(s, was) {
						t.Fatalf("it is now %+v\nnot %+v", s, was)
					}
				}
			}
		}
	}
}

// P9.1: the greatest screen, at its edges.
func TestRuneFar(t *testing.T) {
	end := api.MaxSide - 1
	for _, s := range moded(made(api.MaxSide, api.MaxSide)) {
		for _, at := range []int{0, 1, end - 1, end} {
			for _, wrap := range []bool{false, true} {
				s.Cur.Row, s.Cur.Col, s.Cur.Wrap = at, at, wrap && at == end
				for _, r := range []int{'q', '界', acute} {
					x, e := print.Rune(s, r)
					is(t, x, e, wantRune(s, r))
				}
			}
		}
	}
}

// A step is a rune that is printed, and where that leads.
type step struct {
	s    api.Screen
	r    int
	want api.Screen
}

// with is s with Modes, and the last rune.
func with(s api.Screen, modes, last int) api.Screen {
	s.Modes, s.Last = modes, last
	return s
}

func steps(t *testing.T, l []step) {
	t.Helper()
	for _, c := range l {
		x, e := print.Rune(c.s, c.r)
		is(t, x, e, c.want)
	}
}

// P9.1: written out: where the rune comes, and the cursor; what it covers half of is mended with its own ground.
func TestBodiesWrittenOut(t *testing.T) {
	const shown, wraps = api.ModeShown, api.ModeShown | api.ModeWrap
	x, y, k := one('x', "", plain), one('y', "", loud), blank(loud.Bg)
	a := api.Attr{Fg: 1, Bg: 2, Flags: 3}
	w, v, h := two('世', "\u0301", a), two('界', "", loud), blank(2)
	row := func(l ...api.Cell) []api.Cell { return l }
	steps(t, []step{
		{of(0, 0, false, row(x, x)), 'y', with(of(0, 1, false, row(y, x)), wraps, 'y')},
		{of(0, 1, false, row(x, x)), 'y', with(of(0, 1, true, row(x, y)), wraps, 'y')},
		{of(0, 1, true, row(x, x), w), 'y', with(of(1, 1, false, row(x, x), row(y, h)), wraps, 'y')},
		{of(1, 1, true, w, row(x, x)), 'y', with(of(1, 1, false, row(x, x), row(y, k)), wraps, 'y')},
		{of(0, 0, false, w), 'y', with(of(0, 1, false, row(y, h)), wraps, 'y')},
		{of(0, 1, false, w), 'y', with(of(0, 1, true, row(h, y)), wraps, 'y')},
		{of(0, 0, false, row(x, w[0], w[1])), '界', with(of(0, 2, false, row(v[0], v[1], h)), wraps, '界')},
		{of(0, 1, false, row(w[0], w[1], x)), '界', with(of(0, 2, true, row(h, v[0], v[1])), wraps, '界')},
		{of(0, 1, false, row(w[0], w[1]), row(x, x)), '界', with(of(1, 1, true, row(w[0], w[1]), v), wraps, '界')},
		{of(0, 1, true, row(w[0], w[1]), row(x, x)), '界', with(of(1, 1, true, row(w[0], w[1]), v), wraps, '界')},
		// Down twice never comes: a wide rune that wraps is at column 0 then.
		{of(0, 2, true, row(x, x, x), row(x, x, x), row(x, x, x)), '界', with(of(1, 2, false, row(x, x, x), row(v[0], v[1], x), row(x, x, x)), wraps, '界')},
		// One column: it wraps, and has no room for a wide rune.
		{of(0, 0, true, row(x), row(x)), 'y', with(of(1, 0, true, row(x), row(y)), wraps, 'y')},
		{of(1, 0, true, row(x), row(x)), 'y', with(of(1, 0, true, row(x), row(y)), wraps, 'y')},
		{of(0, 0, true, row(x), row(x)), '界', with(of(0, 0, true, row(x), row(x)), wraps, 0)},
		{of(0, 0, false, row(x), row(x)), '界', with(of(0, 0, false, row(x), row(x)), wraps, 0)},
		// Without ModeWrap the last column is written over, and a wide rune has no room there.
		{with(of(0, 1, false, row(x, x)), shown, 0), 'y', with(of(0, 1, false, row(x, y)), shown, 'y')},
		{with(of(0, 1, true, row(x, x), row(x, x)), shown, 0), 'y', with(of(0, 1, false, row(x, y), row(x, x)), shown, 'y')},
		{with(of(0, 1, true, row(x, x), row(x, x)), shown, 7+'a'), '界', with(of(0, 1, true, row(x, x), row(x, x)), shown, 7+'a')},
		{with(of(0, 1, false, row(x, x), row(x, x)), shown, 0), '界', with(of(0, 1, false, row(x, x), row(x, x)), shown, 0)},
		{with(of(0, 0, false, row(x, x)), shown, 0), '界', with(of(0, 1, false, v), shown, '界')},
	})
}

// P9.1: written out: ModeInsert moves what is behind, on the row that it wraps to, too.
func TestInsertWrittenOut(t *testing.T) {
	const inserts, wraps = api.ModeInsert, api.ModeInsert | api.ModeWrap
	x, y := one('x', "", plain), one('y', "", loud)
	a := api.Attr{Fg: 1, Bg: 2, Flags: 3}
	w, v, h := two('世', "", a), two('界', "", loud), blank(2)
	row := func(l ...api.Cell) []api.Cell { return l }
	steps(t, []step{
		{with(of(0, 0, false, row(x, w[0], w[1])), wraps, 0), 'y', with(of(0, 1, false, row(y, x, h)), wraps, 'y')},
		{with(of(0, 0, false, row(x, w[0], w[1])), wraps, 0), '界', with(of(0, 2, false, row(v[0], v[1], x)), wraps, '界')},
		{with(of(0, 1, false, row(w[0], w[1], x)), wraps, 0), 'y', with(of(0, 2, false, row(h, y, h)), wraps, 'y')},
		{with(of(0, 1, false, row(w[0], w[1], x)), inserts, 0), '界', with(of(0, 2, false, row(h, v[0], v[1])), inserts, '界')},
		{with(of(0, 2, false, row(x, w[0], w[1])), wraps, 0), 'y', with(of(0, 2, true, row(x, h, y)), wraps, 'y')},
		{with(of(0, 2, true, row(x, x, x), row(x, w[0], w[1])), wraps, 0), 'y', with(of(1, 1, false, row(x, x, x), row(y, x, h)), wraps, 'y')},
		{with(of(0, 2, false, row(x, x, x), row(x, w[0], w[1])), inserts, 0), '界', with(of(0, 2, false, row(x, x, x), row(x, w[0], w[1])), inserts, 0)},
	})
}

// P9.1: written out: where marks go; the last rune stays, and the cursor.
func TestMarksWrittenOut(t *testing.T) {
	const none, wraps = 0, api.ModeWrap
	marked := func(l string) api.Cell { return one('x', l, plain) }
	x, w := marked(""), two('世', "", plain)
	row := func(l ...api.Cell) []api.Cell { return l }
	steps(t, []step{
		{with(of(0, 1, false, row(x, x)), wraps, 'k'), acute, with(of(0, 1, false, row(marked("\u0301"), x)), wraps, 'k')},
		{with(of(0, 1, true, row(x, x)), wraps, 'k'), acute, with(of(0, 1, true, row(x, marked("\u0301"))), wraps, 'k')},
		{with(of(0, 1, true, row(x, x)), none, 'k'), acute, with(of(0, 1, true, row(x, marked("\u0301"))), none, 'k')},
		{with(of(1, 0, false, row(x, x), row(x, x)), wraps, 'k'), acute, with(of(1, 0, false, row(x, x), row(x, x)), wraps, 'k')},
		{with(of(1, 1, false, row(x, x), row(x, x)), wraps, 'k'), acute, with(of(1, 1, false, row(x, x), row(marked("\u0301"), x)), wraps, 'k')},
		{with(of(0, 0, true, row(x)), wraps, 0), acute, with(of(0, 0, true, row(marked("\u0301"))), wraps, 0)},
		{with(of(0, 0, false, row(x)), wraps, 0), acute, with(of(0, 0, false, row(x)), wraps, 0)},
		{with(of(0, 1, false, row(marked("\u0300"), x)), wraps, 0), acute, with(of(0, 1, false, row(marked("\u0300\u0301"), x)), wraps, 0)},
		{with(of(0, 1, false, row(marked("\u0301\u0301"), x)), wraps, 0), grave, with(of(0, 1, false, row(marked("\u0301\u0301"), x)), wraps, 0)},
		{with(of(0, 2, false, row(w[0], w[1], x)), wraps, 0), acute, with(of(0, 2, false, row(two('世', "\u0301", plain)[0], w[1], x)), wraps, 0)},
		{with(of(0, 1, false, row(w[0], w[1], x)), wraps, 0), acute, with(of(0, 1, false, row(two('世', "\u0301", plain)[0], w[1], x)), wraps, 0)},
		{with(of(0, 1, true, w), wraps, 0), acute, with(of(0, 1, true, two('世', "\u0301", plain)), wraps, 0)},
		{with(of(0, 1, false, row(blank(5), x)), wraps|api.ModeInsert, 0), acute, with(of(0, 1, false, row(one(' ', "\u0301", blank(5).Attr), x)), wraps|api.ModeInsert, 0)},
	})
}

// P9.1: both sets, and Shift, of all runes about the lines; the last rune is as it was told.
func TestSets(t *testing.T) {
	for bits := range 8 {
		s := of(0, 0, false, []api.Cell{blank(-1)})
		s.Cur.G0, s.Cur.G1, s.Cur.Shift = bits&1, bits>>1&1, bits>>2
		lines := bits&5 == 1 || bits&6 == 6
		for r := ' '; r < 0x7f; r++ {
			shown := int(r)
			if lines && r >= '`' {
				shown = linesSet[r-'`']
			}
			want := s
			want.Main.Cells = []api.Cell{one(shown, "", loud)}
			want.Cur.Wrap, want.Last = true, int(r)
			x, e := print.Rune(s, int(r))
			is(t, x, e, want)
		}
		for _, r := range []int{0x5f, 0xe0, 0x160, 0x2500, 0x10060} {
			x, e := print.Rune(s, r)
			if e != api.OK || x.Main.Cells[0].Rune != r {
				t.Errorf("%d, %#x: %+v, %v", bits, r, x.Main.Cells, e)
			}
		}
		for _, r := range []int{0x1f, 0x7f, -0x60} {
			x, e := print.Rune(s, r)
			refused(t, x, e)
		}
	}
}

// P9.1: every number that is a rune, and those beside them.
func TestEveryRune(t *testing.T) {
	s := of(0, 0, false, []api.Cell{blank(-1), blank(-1)})
	for r := -100; r < 0x110100; r++ {
		x, e := print.Rune(s, r)
		want := copied(s)
		switch width.Of(r) {
		case -1:
			refused(t, x, e)
			continue
		case 1:
			want.Main.Cells[0], want.Cur.Col, want.Last = one(r, "", loud), 1, r
		case 2:
			want.Main.Cells, want.Cur.Col, want.Cur.Wrap, want.Last = two(r, "", loud), 1, true, r
		}
		if e != api.OK || !same(x, want) {
			t.Fatalf("%#x: %+v, %v", r, x, e)
		}
	}
	for _, r := range []int{math.MinInt, math.MaxInt, 1 << 32, 1<<32 + 'a', 1<<32 + acute, -1 << 32, -1<<32 + 'a'} {
		x, e := print.Rune(s, r)
		refused(t, x, e)
	}
}

// P9.2: all places and margins.
func TestDownBackEverywhere(t *testing.T) {
	for rows := 1; rows <= 5; rows++ {
		for cols := 1; cols <= 3; cols++ {
			for _, s := range moded(made(rows, cols)) {
				for _, s := range placed(s) {
					was := copied(s)
					x, e := print.Down(s)
					is(t, x, e, wantDown(s))
					x, e = print.Back(s)
					is(t, x, e, wantBack(s))
					if !same(s, was) {
						t.Fatalf("it is now %+v\nnot %+v", s, was)
					}
				}
			}
		}
	}
}

// P9.2: written out: which rows move, with which ground, and where the cursor is then; its column stays.
func TestDownBackWrittenOut(t *testing.T) {
	a, b, c, d := line(0, 2), line(1, 2), line(2, 2), line(3, 2)
	k := []api.Cell{blank(loud.Bg), blank(loud.Bg)}
	for _, x := range []struct {
		row, top, bottom int
		down             [][]api.Cell
		downRow          int
		back             [][]api.Cell
		backRow          int
	}{
		{0, 0, 3, [][]api.Cell{a, b, c, d}, 1, [][]api.Cell{k, a, b, c}, 0},
		{1, 0, 3, [][]api.Cell{a, b, c, d}, 2, [][]api.Cell{a, b, c, d}, 0},
		{3, 0, 3, [][]api.Cell{b, c, d, k}, 3, [][]api.Cell{a, b, c, d}, 2},
		// Ahead of the margins, within, and behind.
		{0, 1, 2, [][]api.Cell{a, b, c, d}, 1, [][]api.Cell{a, b, c, d}, 0},
		{1, 1, 2, [][]api.Cell{a, b, c, d}, 2, [][]api.Cell{a, k, b, d}, 1},
		{2, 1, 2, [][]api.Cell{a, c, k, d}, 2, [][]api.Cell{a, b, c, d}, 1},
		{3, 1, 2, [][]api.Cell{a, b, c, d}, 3, [][]api.Cell{a, b, c, d}, 2},
	} {
		for _, wrap := range []bool{false, true} {
			s := of(x.row, 1, wrap, a, b, c, d)
			s.Top, s.Bottom = x.top, x.bottom
			down, back := s, s
			down.Main.Cells, down.Cur.Row, down.Cur.Wrap = slices.Concat(x.down...), x.downRow, false
			back.Main.Cells, back.Cur.Row, back.Cur.Wrap = slices.Concat(x.back...), x.backRow, false
			got, e := print.Down(s)
			is(t, got, e, down)
			got, e = print.Back(s)
			is(t, got, e, back)
		}
	}
}

// P9.3: many runes and lines, one behind the other, on screens that change.
func TestManySteps(t *testing.T) {
	seed := uint32(1)
	next := func(n int) int {
		seed = seed*1664525 + 1013904223
		return int(seed>>8) % n
	}
	runes := []int{'a', 'q', '~', ' ', 0xa0, '世', '界', 0x1f600, acute, grave, 0x200b}
	for _, size := range [][2]int{{1, 1}, {1, 2}, {2, 1}, {3, 2}, {3, 3}, {5, 7}} {
		s := made(size[0], size[1])
		for range 4000 {
			want, e := s, api.OK
			switch n := next(20); n {
			case 0:
				want = wantDown(s)
				s, e = print.Down(s)
			case 1:
				want = wantBack(s)
				s, e = print.Back(s)
			case 2:
				s.Modes, s.Swapped, s.Cur.G0, s.Cur.Shift = next(1024), next(2) == 0, next(2), next(2)
				s.Cur.Attr = api.Attr{Fg: next(300) - 1, Bg: next(300) - 1, Flags: next(256)}
				want = s
			default:
				r := runes[next(len(runes))]
				want = wantRune(s, r)
				s, e = print.Rune(s, r)
			}
			is(t, s, e, want)
		}
	}
}

// wrongScreens are screens that may not be, each by another field.
func wrongScreens() []api.Screen {
	l := []api.Screen{{}}
	for _, turn := range []func(s *api.Screen){
		func(s *api.Screen) { s.Main.Cells = s.Main.Cells[:11] },
		func(s *api.Screen) { s.Main = gridOf(2, 4, 0) },
		func(s *api.Screen) { s.Main.Cells[5].Attr.Fg = -2 },
		func(s *api.Screen) { s.Other.Cells = append(s.Other.Cells, blank(-1)) },
		func(s *api.Screen) { s.Other = gridOf(3, 5, 0) },
		func(s *api.Screen) { s.Other.Cells[0] = two('世', "", plain)[1] },
		func(s *api.Screen) { s.Cur.Row = 3 },
		func(s *api.Screen) { s.Cur.Row = -1 },
		func(s *api.Screen) { s.Cur.Col = 4 },
		func(s *api.Screen) { s.Cur.Col = math.MinInt },
		func(s *api.Screen) { s.Cur.Wrap = true },
		func(s *api.Screen) { s.Cur.Attr.Bg = -2 },
		func(s *api.Screen) { s.Cur.G0 = 2 },
		func(s *api.Screen) { s.Cur.G1 = -1 },
		func(s *api.Screen) { s.Cur.Shift = 2 },
		func(s *api.Screen) { s.Saved.Row = 3 },
		func(s *api.Screen) { s.SavedToo.Col = -1 },
		func(s *api.Screen) { s.Top = s.Bottom },
		func(s *api.Screen) { s.Top = -1 },
		func(s *api.Screen) { s.Bottom = 3 },
		func(s *api.Screen) { s.Bottom = math.MaxInt },
		func(s *api.Screen) { s.Tabs = nil },
		func(s *api.Screen) { s.Modes = 1024 },
		func(s *api.Screen) { s.Title = "\x1b" },
		func(s *api.Screen) { s.Last = acute },
	} {
		s := made(3, 4)
		turn(&s)
		l = append(l, s)
	}
	return l
}

// P9.1, P9.2: screens that may not be, whatever is asked of them.
func TestWrongScreens(t *testing.T) {
	for _, s := range wrongScreens() {
		for _, swapped := range []bool{false, true} {
			s.Swapped = swapped
			was := copied(s)
			for _, r := range []int{'a', '世', acute, '\n', -1, 0x110000} {
				x, e := print.Rune(s, r)
				refused(t, x, e)
			}
			x, e := print.Down(s)
			refused(t, x, e)
			x, e = print.Back(s)
			refused(t, x, e)
			if !same(s, was) {
				t.Errorf("it is now %+v\nnot %+v", s, was)
			}
		}
	}
}

// calls are all that tell screens.
var calls = []func(s api.Screen) (api.Screen, api.Errno){
	func(s api.Screen) (api.Screen, api.Errno) { return print.Rune(s, 'a') },
	func(s api.Screen) (api.Screen, api.Errno) { return print.Rune(s, '世') },
	func(s api.Screen) (api.Screen, api.Errno) { return print.Rune(s, acute) },
	print.Down,
	print.Back,
}

// spoil writes into all memory of s, its spare room too.
func spoil(s api.Screen) {
	for _, l := range [][]api.Cell{s.Main.Cells, s.Other.Cells} {
		for i := range l[:cap(l)] {
			l[:cap(l)][i] = one('!', "", loud)
		}
	}
	for i := range s.Tabs[:cap(s.Tabs)] {
		s.Tabs[:cap(s.Tabs)][i] = !s.Tabs[:cap(s.Tabs)][i]
	}
}

// roomy is s in memory of its own that has room behind each list.
func roomy(s api.Screen) api.Screen {
	more := []api.Cell{blank(9), blank(9), blank(9)}
	s.Main.Cells = slices.Concat(s.Main.Cells, more)[:len(s.Main.Cells)]
	s.Other.Cells = slices.Concat(s.Other.Cells, more)[:len(s.Other.Cells)]
	s.Tabs = slices.Concat(s.Tabs, make([]bool, 3))[:len(s.Tabs)]
	return s
}

// room is s with all that its lists have room for.
func room(s api.Screen) api.Screen {
	s.Main.Cells, s.Other.Cells, s.Tabs = s.Main.Cells[:cap(s.Main.Cells)], s.Other.Cells[:cap(s.Other.Cells)], s.Tabs[:cap(s.Tabs)]
	return s
}

// R2: what is told is new memory, and what is handed in stays, its room too; where nothing happens as well.
func TestOwnMemory(t *testing.T) {
	for _, size := range [][2]int{{1, 1}, {3, 3}} {
		for _, s := range placed(made(size[0], size[1])) {
			for i, call := range calls {
				given := roomy(s)
				was := copied(room(given))
				x, e := call(given)
				y, f := call(given)
				if e != api.OK || f != e || !same(x, y) {
					t.Fatalf("%d: %+v, %v, then %+v, %v", i, x, e, y, f)
				}
				kept := copied(y)
				spoil(x)
				if !same(room(given), was) {
					t.Fatalf("%d: what was handed in is now %+v", i, given)
				}
				spoil(given)
				if !same(y, kept) {
					t.Fatalf("%d: what was told is now %+v", i, y)
				}
			}
		}
	}
}

// R2: grids that are handed in as one memory come as two.
func TestGridsApart(t *testing.T) {
	for i, call := range calls {
		s := made(2, 3)
		s.Other = s.Main
		s.Cur.Row, s.Cur.Col = 1, 1
		x, e := call(s)
		other := slices.Clone(x.Other.Cells)
		clear(x.Main.Cells[:cap(x.Main.Cells)])
		if e != api.OK || !slices.Equal(x.Other.Cells, other) || !slices.Equal(other, gridOf(2, 3, 0).Cells) {
			t.Errorf("%d: %+v, %v", i, x.Other, e)
		}
	}
}
