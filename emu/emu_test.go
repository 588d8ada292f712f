package emu_test

import (
	"math"
	"reflect"
	"slices"
	"strconv"
	"strings"
	"testing"
	"unicode/utf8"

	"beacon/api"
	"beacon/cursor"
	"beacon/edit"
	"beacon/emu"
	"beacon/mode"
	"beacon/print"
	"beacon/screen"
	"beacon/sgr"
	"beacon/vt"
	"beacon/width"
)

var (
	plain = api.Attr{Fg: -1, Bg: -1}
	loud  = api.Attr{Fg: 3, Bg: 256 + 1<<24 - 1, Flags: 255}
)

// gridOf is a grid whose cells differ, and differ from those of another first: marked runes, and wide ones.
func gridOf(rows, cols, first int) api.Grid {
	g := api.Grid{Rows: rows, Cols: cols}
	for i := 0; len(g.Cells) < rows*cols; i++ {
		a := api.Attr{Fg: i % 256, Bg: first, Flags: (first + i) % 256}
		if i%2 == 1 && len(g.Cells)%cols+2 <= cols {
			g.Cells = append(g.Cells, api.Cell{Rune: '世' + i, Comb: "\u0302", Wide: api.WideFirst, Attr: a}, api.Cell{Wide: api.WideSecond, Attr: a})
			continue
		}
		g.Cells = append(g.Cells, api.Cell{Rune: 'a' + (first+i)%26, Comb: "\u0301", Attr: a})
	}
	return g
}

// made is a screen of which hardly anything is as screen.New tells it, but for the margins.
func made(rows, cols int) api.Screen {
	return api.Screen{
		Main: gridOf(rows, cols, 0), Other: gridOf(rows, cols, 7),
		Cur:      api.Cursor{Attr: loud, G0: api.SetLines, Shift: 1, Origin: true},
		Saved:    api.Cursor{Row: rows / 2, Col: cols / 2, Attr: loud, G1: api.SetLines},
		SavedToo: api.Cursor{Col: cols - 1, Wrap: true, Attr: loud, Shift: 1, Origin: true},
		Bottom:   rows - 1,
		Tabs:     slices.Repeat([]bool{true, false, false}, cols)[:cols],
		Modes:    api.ModeWrap | api.ModeNewline | api.ModePaste, Title: "té", Last: 'L',
	}
}

// copied is s in memory of its own.
func copied(s api.Screen) api.Screen {
	s.Main.Cells, s.Other.Cells, s.Tabs = slices.Clone(s.Main.Cells), slices.Clone(s.Other.Cells), slices.Clone(s.Tabs)
	return s
}

func same(a, b api.Screen) bool {
	lists := slices.Equal(a.Main.Cells, b.Main.Cells) && slices.Equal(a.Other.Cells, b.Other.Cells) && slices.Equal(a.Tabs, b.Tabs)
	a.Main.Cells, a.Other.Cells, a.Tabs = nil, nil, nil
	b.Main.Cells, b.Other.Cells, b.Tabs = nil, nil, nil
	return lists && reflect.DeepEqual(a, b)
}

func sameTerm(a, b api.Term) bool {
	x, y := a.Parse, b.Parse
	params := slices.Equal(x.Params, y.Params)
	x.Params, y.Params = nil, nil
	return same(a.Screen, b.Screen) && params && reflect.DeepEqual(x, y)
}

// placed are s with its cursor at all places, in either grid, with and without Wrap, Newline, Origin.
func placed(s api.Screen) []api.Screen {
	var l []api.Screen
	for i := range s.Main.Rows * s.Main.Cols {
		s.Cur.Row, s.Cur.Col = i/s.Main.Cols, i%s.Main.Cols
		for bits := range 16 {
			s.Cur.Wrap, s.Cur.Origin, s.Swapped = bits&1 != 0, bits&2 != 0, bits&4 != 0
			s.Modes = api.ModeWrap | api.ModePaste | api.ModeNewline*(bits>>3)
			if !s.Cur.Wrap || s.Cur.Col == s.Main.Cols-1 {
				l = append(l, s)
			}
		}
	}
	return l
}

// screens are some, small ones and one that has margins; many ways to stand.
func screens() []api.Screen {
	l := append(placed(made(1, 1)), placed(made(2, 3))...)
	s := made(4, 3)
	s.Top, s.Bottom = 1, 2
	return append(l, placed(s)...)
}

// few are some of those.
func few() []api.Screen {
	var l []api.Screen
	for i, s := range screens() {
		if i%7 == 0 {
			l = append(l, s)
		}
	}
	return l
}

// sure is a screen that a layer below tells; it must not refuse.
func sure(s api.Screen, e api.Errno) api.Screen {
	if e != api.OK {
		panic(e)
	}
	return s
}

// wantControl is a control by P13.1.
func wantControl(s api.Screen, b int) api.Screen {
	switch b {
	case 8:
		if !s.Cur.Wrap && s.Cur.Col > 0 {
			s.Cur.Col--
		}
		s.Cur.Wrap = false
	case 9:
		return sure(cursor.Move(s, 'I', 1, -1))
	case 10, 11, 12:
		s = sure(print.Down(s))
		if s.Modes&api.ModeNewline != 0 {
			s.Cur.Col = 0
		}
	case 13:
		s.Cur.Col, s.Cur.Wrap = 0, false
	case 14:
		s.Cur.Shift = 1
	case 15:
		s.Cur.Shift = 0
	}
	return s
}

// wantEscape is an escape by P13.1.
func wantEscape(s api.Screen, inter string, b int) api.Screen {
	switch {
	case inter == "" && b == '7':
		return sure(cursor.Save(s))
	case inter == "" && b == '8':
		return sure(cursor.Restore(s))
	case inter == "" && b == 'D':
		return sure(print.Down(s))
	case inter == "" && b == 'M':
		return sure(print.Back(s))
	case inter == "" && b == 'E':
		s = sure(print.Down(s))
		s.Cur.Col = 0
	case inter == "" && b == 'H':
		s = copied(s)
		s.Tabs[s.Cur.Col] = true
	case inter == "" && b == 'c':
		return sure(mode.Hard(s))
	case inter == "" && b == '=':
		return sure(mode.Set(s, true, 66, true))
	case inter == "" && b == '>':
		return sure(mode.Set(s, true, 66, false))
	case inter == "(" && b == '0':
		s.Cur.G0 = api.SetLines
	case inter == "(" && b == 'B':
		s.Cur.G0 = api.SetPlain
	case inter == ")" && b == '0':
		s.Cur.G1 = api.SetLines
	case inter == ")" && b == 'B':
		s.Cur.G1 = api.SetPlain
	case inter == "#" && b == '8':
		return sure(mode.Align(s))
	}
	return s
}

// wantCsi is a csi by P13.1, and what is answered.
func wantCsi(s api.Screen, inter string, b int, l []int) (api.Screen, string) {
	more := append(slices.Clone(l), -1, -1)
	p, q := more[0], more[1]
	switch inter {
	case "":
		return wantPlainCsi(s, b, l, p, q)
	case "?":
		if b == 'h' || b == 'l' {
			for _, n := range l {
				s = sure(mode.Set(s, true, n, b == 'h'))
			}
		}
		if b == 'J' || b == 'K' {
			return sure(edit.Do(s, b, p)), ""
		}
	case "!":
		if b == 'p' {
			return sure(mode.Soft(s)), ""
		}
	case ">":
		if b == 'c' && p <= 0 {
			return s, "\x1b[>1;10;0c"
		}
	}
	return s, ""
}

// wantPlainCsi is one without Inter.
func wantPlainCsi(s api.Screen, b int, l []int, p, q int) (api.Screen, string) {
	if as, ok := map[int]int{'f': 'H', 'e': 'B', 'a': 'C', '`': 'G'}[b]; ok {
		b = as
	}
	switch b {
	case 'A', 'B', 'C', 'D', 'E', 'F', 'G', 'd', 'H', 'I', 'Z':
		return sure(cursor.Move(s, b, p, q)), ""
	case 'J', 'K', 'X', 'P', '@', 'L', 'M', 'S', 'T':
		return sure(edit.Do(s, b, p)), ""
	case 'm':
		a, e := sgr.Apply(s.Cur.Attr, l)
		s.Cur.Attr = a
		return s, strings.Repeat("!", int(e))
	case 'r':
		return sure(mode.Margins(s, p, q)), ""
	case 'h', 'l':
		for _, n := range l {
			s = sure(mode.Set(s, false, n, b == 'h'))
		}
	case 's':
		return sure(cursor.Save(s)), ""
	case 'u':
		return sure(cursor.Restore(s)), ""
	case 'g':
		s = copied(s)
		for i := range s.Tabs {
			if p == 3 || p <= 0 && i == s.Cur.Col {
				s.Tabs[i] = false
			}
		}
	case 'b':
		for i := 0; s.Last != 0 && i < 500 && (i == 0 || i < p); i++ {
			s = sure(print.Rune(s, s.Last))
		}
	case 'n':
		return s, wantReport(s, p)
	case 'c':
		if p <= 0 {
			return s, "\x1b[?62;22c"
		}
	}
	return s, ""
}

// wantReport is what a csi n answers.
func wantReport(s api.Screen, p int) string {
	row := s.Cur.Row + 1
	if s.Cur.Origin {
		row = s.Cur.Row - s.Top + 1
	}
	switch p {
	case 5:
		return "\x1b[0n"
	case 6:
		return "\x1b[" + strconv.Itoa(row) + ";" + strconv.Itoa(s.Cur.Col+1) + "R"
	}
	return ""
}

// wantOsc is an osc by P13.1.
func wantOsc(s api.Screen, text string) api.Screen {
	if len(text) < 2 || text[:2] != "0;" && text[:2] != "2;" {
		return s
	}
	s.Title = ""
	for text = text[2:]; text != ""; {
		r, n := utf8.DecodeRuneInString(text)
		if !(r == utf8.RuneError && n == 1) && r >= 0x20 && (r < 0x7f || r > 0x9f) {
			s.Title += text[:n]
		}
		text = text[n:]
	}
	return s
}

// want is P13.1 by its words.
func want(s api.Screen, v api.Event) (api.Screen, string) {
	switch v.Kind {
	case api.EvPrint:
		if width.Of(v.Rune) >= 0 {
			return sure(print.Rune(s, v.Rune)), ""
		}
		return s, ""
	case api.EvControl:
		return wantControl(s, v.Rune), ""
	case api.EvEscape:
		return wantEscape(s, v.Inter, v.Rune), ""
	case api.EvCsi:
		return wantCsi(s, v.Inter, v.Rune, v.Params)
	}
	return wantOsc(s, v.Text), ""
}

// check holds Do of v against the words.
func check(t *testing.T, s api.Screen, v api.Event) {
	t.Helper()
	was, params := copied(s), slices.Clone(v.Params)
	x, told, e := emu.Do(s, v)
	y, say := want(s, v)
	if e != api.OK || !same(x, y) || told != say {
		t.Fatalf("%+v on %+v:\n%+v, %q, %v\nnot %+v, %q", v, s, x, told, e, y, say)
	}
	if screen.Check(x) != api.OK {
		t.Fatalf("%+v: it may not be: %+v", v, x)
	}
	if !same(s, was) || !slices.Equal(v.Params, params) {
		t.Fatalf("%+v changes what is handed in: %+v", v, s)
	}
}

// P13.1: prints, of all widths, and of none.
func TestPrints(t *testing.T) {
	for _, s := range screens() {
		for _, r := range []int{' ', '`', 'q', '~', 0x7f, 0x80, 0x9f, 0xa0, 0x301, 0x200b, 0x200d, 'é', '世', 0xd7ff, 0xd800, 0xdfff, 0xfffd, 0x1f600, 0x10ffff} {
			check(t, s, api.Event{Kind: api.EvPrint, Rune: r})
		}
	}
	s := made(2, 3)
	for r := ' '; r <= utf8.MaxRune; r += 1 + r/0x300*17 {
		check(t, s, api.Event{Kind: api.EvPrint, Rune: int(r)})
	}
}

// P13.1: all controls, from everywhere.
func TestControls(t *testing.T) {
	for _, s := range screens() {
		for b := range ' ' {
			check(t, s, api.Event{Kind: api.EvControl, Rune: int(b)})
		}
	}
}

// inters are what may stand between.
func inters() []string {
	l := []string{"((", "( ", " (", "()", "))", "##", "#(", "??", "?!", "!?", ">>", "?>", "   ", "???", "(((", "0", "8?", "7"}
	for b := ' '; b <= '?'; b++ {
		l = append(l, string(b))
	}
	return append(l, "")
}

// P13.1: all escapes, whatever stands between.
func TestEscapes(t *testing.T) {
	for _, s := range few() {
		for _, inter := range inters() {
			for b := '0'; b <= '~'; b++ {
				check(t, s, api.Event{Kind: api.EvEscape, Rune: int(b), Inter: inter})
			}
		}
	}
	for _, s := range screens() {
		for _, b := range "78DMEHc=>" {
			check(t, s, api.Event{Kind: api.EvEscape, Rune: int(b)})
		}
	}
}

// P13.1: all csis of some numbers, whatever stands between.
func TestCsis(t *testing.T) {
	lists := [][]int{nil, {0}, {1}, {2, 3}, {3}, {5}, {6, 6}, {-1, 2}}
	for i, s := range few() {
		for k, inter := range inters() {
			if inter != "" && i%5 != k%5 {
				continue
			}
			for b := '0'; b <= '~'; b++ {
				for _, l := range lists {
					check(t, s, api.Event{Kind: api.EvCsi, Rune: int(b), Inter: inter, Params: l})
				}
			}
		}
	}
}

// P13.1: each csi that does something, from everywhere.
func TestCsisEverywhere(t *testing.T) {
	for _, s := range screens() {
		for _, b := range "ABCDEFGdHIZfea`JKXP@LMSTmrhlsugbnc" {
			for _, l := range [][]int{nil, {2}, {6}, {0, 2}, {20, -1, 4}} {
				check(t, s, api.Event{Kind: api.EvCsi, Rune: int(b), Params: l})
			}
		}
		for _, l := range [][]int{nil, {1}, {2}, {6}, {7}, {1049}, {25, 6, -1, 47}} {
			for _, b := range "hlJK" {
				check(t, s, api.Event{Kind: api.EvCsi, Rune: int(b), Inter: "?", Params: l})
			}
		}
		check(t, s, api.Event{Kind: api.EvCsi, Rune: 'p', Inter: "!"})
		check(t, s, api.Event{Kind: api.EvCsi, Rune: 'c', Inter: ">"})
	}
}

// P13.1: numbers at their edges, and as many as may be.
func TestCsiNumbers(t *testing.T) {
	all := slices.Repeat([]int{1, 4, 20, 6, 7, 25, 1049, -1}, 2)
	for _, s := range few() {
		for _, b := range "AHGJXPSmrgnchl" {
			for _, n := range []int{-1, 0, 1, 3, 4, 7, 38, 255, 256, 261, 262, 4097, api.MaxValue} {
				check(t, s, api.Event{Kind: api.EvCsi, Rune: int(b), Params: []int{n}})
				check(t, s, api.Event{Kind: api.EvCsi, Rune: int(b), Params: []int{1, n}})
				check(t, s, api.Event{Kind: api.EvCsi, Rune: int(b), Inter: ">", Params: []int{n}})
			}
			check(t, s, api.Event{Kind: api.EvCsi, Rune: int(b), Params: all})
			check(t, s, api.Event{Kind: api.EvCsi, Rune: int(b), Inter: "?", Params: all})
		}
	}
}

// P13.1: a rune is printed once more at least once, and at most 500 times.
func TestRepeat(t *testing.T) {
	s := made(3, 4)
	s.Cur.Shift = 0
	for _, s.Last = range []int{0, 'a', 'q', '世'} {
		for _, p := range []int{-1, 0, 1, 2, 13, 499, 500, 501, api.MaxValue} {
			check(t, s, api.Event{Kind: api.EvCsi, Rune: 'b', Params: []int{p}})
		}
	}
	big, _ := screen.New(20, 40)
	big.Last = 'x'
	for _, c := range [][2]int{{-1, 1}, {0, 1}, {1, 1}, {39, 39}, {499, 499}, {500, 500}, {501, 500}, {9999, 500}} {
		x, _, e := emu.Do(big, api.Event{Kind: api.EvCsi, Rune: 'b', Params: []int{c[0]}})
		count := 0
		for _, y := range x.Main.Cells {
			if y.Rune == 'x' {
				count++
			}
		}
		if e != api.OK || count != c[1] {
			t.Errorf("%v: %d, %v", c, count, e)
		}
	}
}

// P13.1: where the cursor is, wherever it is and however its rows are counted.
func TestReport(t *testing.T) {
	s, _ := screen.New(4, 5)
	s.Top, s.Bottom = 1, 3
	for _, c := range []struct {
		row, col int
		origin   bool
		told     string
	}{
		{0, 0, false, "\x1b[1;1R"}, {3, 4, false, "\x1b[4;5R"}, {1, 2, false, "\x1b[2;3R"}, {1, 2, true, "\x1b[1;3R"}, {3, 0, true, "\x1b[3;1R"}, {0, 1, true, "\x1b[0;2R"},
	} {
		s.Cur.Row, s.Cur.Col, s.Cur.Origin = c.row, c.col, c.origin
		x, told, e := emu.Do(s, api.Event{Kind: api.EvCsi, Rune: 'n', Params: []int{6}})
		if e != api.OK || told != c.told || !same(x, s) {
			t.Errorf("%+v: %q, %v", c, told, e)
		}
	}
	s, _ = screen.New(api.MaxSide, api.MaxSide)
	s.Cur.Row, s.Cur.Col, s.Cur.Wrap = 39, 39, true
	if _, told, _ := emu.Do(s, api.Event{Kind: api.EvCsi, Rune: 'n', Params: []int{6, 5}}); told != "\x1b[40;40R" {
		t.Errorf("%q", told)
	}
}

// P13.1: titles, and texts that are none.
func TestOscs(t *testing.T) {
	for _, text := range []string{
		"", "0", "2", "0;", "2;", ";", "0;a", "2;a;b", "1;a", "02;a", "20;a", "00;a", " 0;a", "0 ;a", "\xff0;a", "4;0;a", "0;0;a", "2;2;", "0:a",
		"0;\x00a\x1fb c", "2;a\x7fb\u0080\u0085\u009fc\u00a0", "0;\xff\xfe", "0;\xe4\xb8世\xe4", "2;\xed\xa0\x80\ufffd\xc0\x80", "0;\xc3\xff\xa9", "0;e\u0301\u200b\U0001f600\u2028", "2;\x1b\x07\n",
		"0;" + strings.Repeat("x", 62), "2;" + strings.Repeat("é", 31), "0;" + strings.Repeat("世", 20) + "\xe4\xb8", "0;\xf4\x90\x80\x80",
	} {
		check(t, made(2, 3), api.Event{Kind: api.EvOsc, Text: text})
		fresh, _ := screen.New(1, 1)
		check(t, fresh, api.Event{Kind: api.EvOsc, Text: text})
	}
	for _, c := range [][2]string{{"0;ab", "ab"}, {"2;", ""}, {"0;a\xffb\x7f\u0090c\ufffd", "abc\ufffd"}, {"1;ab", "té"}, {"3;ab", "té"}, {"", "té"}} {
		if x, _, e := emu.Do(made(2, 3), api.Event{Kind: api.EvOsc, Text: c[0]}); x.Title != c[1] || e != api.OK {
			t.Errorf("%q: %q, %v", c[0], x.Title, e)
		}
	}
}

// wrongEvents are such as may not be.
func wrongEvents() []api.Event {
	l := []api.Event{
		{}, {Rune: 'a'}, {Kind: -1, Rune: 'a'}, {Kind: api.EvOsc + 1}, {Kind: math.MinInt}, {Kind: 1<<32 + api.EvPrint, Rune: 'a'},
		{Kind: api.EvPrint}, {Kind: api.EvPrint, Rune: 31}, {Kind: api.EvPrint, Rune: -1}, {Kind: api.EvPrint, Rune: 0x110000}, {Kind: api.EvPrint, Rune: 1<<32 + 'a'}, {Kind: api.EvPrint, Rune: math.MaxInt},
		{Kind: api.EvControl, Rune: 32}, {Kind: api.EvControl, Rune: -1}, {Kind: api.EvControl, Rune: 127}, {Kind: api.EvControl, Rune: 0x85}, {Kind: api.EvControl, Rune: 1<<32 + 9}, {Kind: api.EvControl, Rune: math.MinInt},
		{Kind: api.EvEscape}, {Kind: api.EvCsi},
		{Kind: api.EvOsc, Rune: 'a'}, {Kind: api.EvOsc, Rune: -1}, {Kind: api.EvOsc, Rune: 7, Text: "0;a"}, {Kind: api.EvOsc, Inter: " "}, {Kind: api.EvOsc, Params: []int{-1}},
		{Kind: api.EvOsc, Text: strings.Repeat("x", 65)}, {Kind: api.EvOsc, Text: "0;" + strings.Repeat("é", 32)}, {Kind: api.EvOsc, Text: strings.Repeat("x", 5000)},
		{Kind: api.EvEscape, Rune: 'c', Params: []int{0}}, {Kind: api.EvEscape, Rune: '7', Params: []int{-1}}, {Kind: api.EvEscape, Rune: 'c', Text: "a"}, {Kind: api.EvCsi, Rune: 'm', Text: "a"},
		{Kind: api.EvCsi, Rune: 'm', Params: slices.Repeat([]int{1}, 17)}, {Kind: api.EvCsi, Rune: 'm', Params: slices.Repeat([]int{-1}, 500)},
		{Kind: api.EvPrint, Rune: 'a', Inter: " "}, {Kind: api.EvPrint, Rune: 'a', Params: []int{-1}}, {Kind: api.EvPrint, Rune: 'a', Text: "a"},
		{Kind: api.EvControl, Rune: 10, Inter: "("}, {Kind: api.EvControl, Rune: 10, Params: []int{0}}, {Kind: api.EvControl, Rune: 10, Text: "\n"},
	}
	for _, n := range []int{-2, api.MaxValue + 1, math.MinInt, math.MaxInt, 1 << 32} {
		l = append(l, api.Event{Kind: api.EvCsi, Rune: 'A', Params: []int{n}}, api.Event{Kind: api.EvCsi, Rune: 'm', Params: []int{1, 2, n}}, api.Event{Kind: api.EvCsi, Rune: 'q', Params: append(slices.Repeat([]int{1}, 15), n)})
	}
	for _, kind := range []int{api.EvEscape, api.EvCsi} {
		for _, b := range []int{-1, 0, 7, ' ', '/', 127, 128, 255, 256 + 'c', 1<<32 + 'c', math.MaxInt} {
			l = append(l, api.Event{Kind: kind, Rune: b})
		}
		for _, inter := range []string{"@", "\x1f", "\x00", "\x7f", "\x80", "\xff", "é", "a", "(@", "?\x1f", "    ", "((((", "????", "世", " \u00a0", strings.Repeat(" ", 300)} {
			l = append(l, api.Event{Kind: kind, Rune: 'c', Inter: inter})
		}
	}
	return l
}

// P13.1: events that may not be.
func TestWrongEvents(t *testing.T) {
	for _, s := range few() {
		for _, v := range wrongEvents() {
			x, told, e := emu.Do(s, v)
			if e != api.ErrForm || told != "" || !reflect.DeepEqual(x, api.Screen{}) {
				t.Errorf("%+v: %+v, %q, %v", v, x, told, e)
			}
		}
	}
}

// P13.1: events that may be and do nothing, or what others do whose lists are nil; empty lists are none.
func TestOddEvents(t *testing.T) {
	for _, s := range few() {
		for _, v := range []api.Event{
			{Kind: api.EvPrint, Rune: 'a', Params: []int{}}, {Kind: api.EvControl, Rune: 9, Params: []int{}}, {Kind: api.EvEscape, Rune: 'c', Params: []int{}}, {Kind: api.EvCsi, Rune: 'm', Params: []int{}}, {Kind: api.EvOsc, Text: "0;x", Params: []int{}},
			{Kind: api.EvEscape, Rune: '0', Inter: "?>="}, {Kind: api.EvCsi, Rune: '~', Inter: "/0?", Params: slices.Repeat([]int{api.MaxValue}, 16)}, {Kind: api.EvOsc, Text: strings.Repeat("\xff", 64)}, {Kind: api.EvOsc, Text: "\x00"},
		} {
			check(t, s, v)
		}
	}
}

// wrongScreens are screens that may not be, each by another field.
func wrongScreens() []api.Screen {
	l := []api.Screen{{}}
	for _, spoiled := range []func(s *api.Screen){
		func(s *api.Screen) { s.Main.Cells = s.Main.Cells[:11] },
		func(s *api.Screen) { s.Main = gridOf(api.MaxSide+1, 4, 0) },
		func(s *api.Screen) { s.Main.Cells[5].Attr.Fg = -2 },
		func(s *api.Screen) { s.Other = gridOf(3, 5, 0) },
		func(s *api.Screen) { s.Other.Cells[0].Rune = '世' },
		func(s *api.Screen) { s.Cur.Row = 3 },
		func(s *api.Screen) { s.Cur.Col = -1 },
		func(s *api.Screen) { s.Cur.Wrap = true },
		func(s *api.Screen) { s.Cur.Attr.Bg = -2 },
		func(s *api.Screen) { s.Cur.Shift = 2 },
		func(s *api.Screen) { s.Saved.Row = 3 },
		func(s *api.Screen) { s.SavedToo.Attr.Flags = 256 },
		func(s *api.Screen) { s.Top = s.Bottom },
		func(s *api.Screen) { s.Bottom = 3 },
		func(s *api.Screen) { s.Tabs = s.Tabs[:3] },
		func(s *api.Screen) { s.Modes = 1024 },
		func(s *api.Screen) { s.Title = "\x1b" },
		func(s *api.Screen) { s.Last = 0x301 },
	} {
		s := made(3, 4)
		spoiled(&s)
		l = append(l, s)
	}
	return l
}

// wrongParses are states that may not be.
func wrongParses() []api.Parse {
	return []api.Parse{{State: -1}, {State: api.StStringEsc + 1}, {Part: "a"}, {Part: "\xff"}, {State: api.StCsi, Params: []int{-2}}, {State: api.StInter}, {State: api.StCsi, Inter: "0"}, {Text: "a"}, {State: api.StOsc, Text: "\x1b"}, {Params: []int{1}}}
}

// refused holds answers of Feed and Resize to nothing but an error.
func refused(t *testing.T, x api.Term, told string, e, want api.Errno) {
	t.Helper()
	if e != want || told != "" || !reflect.DeepEqual(x, api.Term{}) {
		t.Errorf("%+v, %q, %v", x, told, e)
	}
}

// P13.1, P13.2: screens and states that may not be, ahead of all else that is wrong.
func TestWrongTerms(t *testing.T) {
	long := strings.Repeat("a", api.MaxText+1)
	for _, s := range wrongScreens() {
		for _, v := range []api.Event{{}, {Kind: api.EvPrint, Rune: 'a'}, {Kind: api.EvControl}, {Kind: api.EvEscape, Rune: 'c'}, {Kind: api.EvCsi, Rune: 'n', Params: []int{5}}, {Kind: api.EvOsc}} {
			x, told, e := emu.Do(s, v)
			refused(t, api.Term{Screen: x}, told, e, api.ErrForm)
		}
		for _, text := range []string{"", "a", "\x1b[5n", "\x1bc", long} {
			x, told, e := emu.Feed(api.Term{Screen: s}, text)
			refused(t, x, told, e, api.ErrForm)
		}
		x, e := emu.Resize(api.Term{Screen: s}, 3, 4)
		refused(t, x, "", e, api.ErrForm)
	}
	for _, p := range wrongParses() {
		given := api.Term{Screen: made(3, 4), Parse: p}
		for _, text := range []string{"", "a", "\x1b[5n", "\x18", long} {
			x, told, e := emu.Feed(given, text)
			refused(t, x, told, e, api.ErrForm)
		}
		x, e := emu.Resize(given, 3, 4)
		refused(t, x, "", e, api.ErrForm)
	}
	x, told, e := emu.Feed(api.Term{Screen: made(3, 4)}, long)
	refused(t, x, told, e, api.ErrLimit)
	x, told, e = emu.Feed(api.Term{Screen: made(3, 4)}, strings.Repeat(long, 20))
	refused(t, x, told, e, api.ErrLimit)
	if _, _, e := emu.Feed(api.Term{Screen: made(3, 4)}, long[1:]); e != api.OK {
		t.Errorf("%v", e)
	}
}

// P13.2: New, of all sizes and of none.
func TestNew(t *testing.T) {
	for _, n := range []int{math.MinInt, -1, 0, 1, 2, 8, 39, 40, 41, 1<<32 + 1, math.MaxInt} {
		for _, m := range []int{-1, 0, 1, 2, 9, 40, 41, 1 << 32} {
			x, e := emu.New(n, m)
			s, f := screen.New(n, m)
			if e != f || !sameTerm(x, api.Term{Screen: s}) {
				t.Errorf("%d, %d: %+v, %v", n, m, x, e)
			}
		}
	}
	if _, e := emu.New(0, 1); e != api.ErrForm {
		t.Errorf("%v", e)
	}
	if x, e := emu.New(40, 40); e != api.OK || x.Parse.State != api.StGround || len(x.Screen.Tabs) != 40 {
		t.Errorf("%+v, %v", x, e)
	}
}

// P13.2: Resize: the screen is screen.Resize's, the parser's state stays.
func TestResize(t *testing.T) {
	for _, s := range few() {
		for _, p := range []api.Parse{{}, {Part: "\xe4\xb8"}, {State: api.StCsi, Params: []int{1, -1}, Inter: "?"}, {State: api.StOsc, Text: "0;a"}} {
			for _, n := range []int{-1, 0, 1, 3, 4, 40, 41} {
				for _, m := range []int{0, 1, 2, 9, 40, 41} {
					x, e := emu.Resize(api.Term{Screen: s, Parse: p}, n, m)
					want := api.Term{Parse: p}
					var f api.Errno
					if want.Screen, f = screen.Resize(s, n, m); f != api.OK {
						want = api.Term{}
					}
					if e != f || !sameTerm(x, want) {
						t.Fatalf("%d, %d: %+v, %v", n, m, x, e)
					}
				}
			}
		}
	}
}

// seen tells the runes that are seen, rows by |.
func seen(s api.Screen) string {
	v, _ := screen.View(s)
	var b strings.Builder
	for i, c := range v.Grid.Cells {
		if i > 0 && i%v.Grid.Cols == 0 {
			b.WriteByte('|')
		}
		if c.Wide != api.WideSecond {
			b.WriteString(string(rune(c.Rune)) + c.Comb)
		}
	}
	return b.String()
}

// P13.1, P13.2: bytes, and what is seen and answered then.
func TestFeedWrittenOut(t *testing.T) {
	for _, c := range []struct{ s, want, told string }{
		{"", "    |    |    ", ""},
		{"\x1b[6n", "    |    |    ", "\x1b[1;1R"},
		{"hi\r\nyou\x1b[6n\x1b[5n", "hi  |you |    ", "\x1b[2;4R\x1b[0n"},
		{"\x1b[c\x1b[>c\x1b[=c", "    |    |    ", "\x1b[?62;22c\x1b[>1;10;0c"},
		{"abcdef", "abcd|ef  |    ", ""},
		{"abcd\x1b[6n\b\x1b[6nx", "abcx|    |    ", "\x1b[1;4R\x1b[1;4R"},
		{"a\tb\x1b[Zc", "c  b|    |    ", ""},
		{"\x1b[2;3Hx\x1b[3;1fy\x1b[Az", "    | zx |y   ", ""},
		{"\x1b(0lqk\x1b(B\x0e\x1b)0x\x0fx", "┌─┐│|x   |    ", ""},
		{"\x1b#8\x1b[2;2H\x1b[K\x1b[3;2H\x1b[1K", "EEEE|E   |  EE", ""},
		{"a\x1b[?1049hb\x1b[?1049lc", "ac  |    |    ", ""},
		{"1\r\n2\r\n3\x1b[2;3r\x1b[3;1H\n4\x1b[?6h\x1b[H5\x1b[6n", "1   |5   |4   ", "\x1b[1;2R"},
		{"e\u0301世\x1b[2b", "e\u0301世 |世世|    ", ""},
		{"a\x1b[3b\x1bMb", "   b|aaaa|    ", ""},
		{"abc\x1b[2D\x1b[@\x1b[4hx\x1b[4l\x1b[P", "axb |    |    ", ""},
		{"ab\x1b7\x1b[3;4Hc\x1b8d\x1b[sE\x1b[H\x1b[uF", "abdF|    |   c", ""},
		{"\x1b]0;a\x07\x1bP1;2|x\x1b\\b\x1b[<1c\x1b[1 q", "b   |    |    ", ""},
		{"a\x1bEb\x1bDc\x1bH\r\t\x1b[6n", "a   |b   | c  ", "\x1b[3;3R"},
		{"\xff\xc3(", "\ufffd\ufffd( |    |    ", ""},
	} {
		x, _ := emu.New(3, 4)
		y, told, e := emu.Feed(x, c.s)
		if e != api.OK || seen(y.Screen) != c.want || told != c.told {
			t.Errorf("%q: %q, %q, %v", c.s, seen(y.Screen), told, e)
		}
	}
}

// some are bytes that do all sorts of things.
const some = "ab\r\n\x1b[1;31mc\x1b[2;2Hd\x1b[6n世e\u0301\x1b[?1049h\x1b[42mx\x1b[J\x1b]0;ti\xfft\x07\x1b(0q\x1b[3b\x1b[?6h\x1b[2;3r\x1b[H\x1b[5n\x1bM\n\x0b\x1b[4;20h\x1b[@y\x1b7\xe4\xb8\x1b[c\x1b[?1049l\x1b8\x1b[>c\x1b)0\x0ez\x0f\x1b[!p\b\b\t\x1bH\x1b[g\x1b#8\x1b[1L\x1b[99;99Hw\xf0\x9f\x98\x80v\x1b[2S\x1b[K\x1b[r\x1b[s\x1b[u\x18\x1b[1\x1aq"

// P13.2: Feed is each event of the parser done, one behind the other.
func TestFeedIsEachEvent(t *testing.T) {
	for _, s := range few() {
		for _, text := range []string{"", "a", "\x1b[6n", some, some + some + "\x1b[1;2", "\x1bc" + some + "\xe4\xb8"} {
			l, p, _ := vt.Feed(api.Parse{}, text)
			x, all := copied(s), ""
			for _, v := range l {
				y, told, e := emu.Do(x, v)
				if e != api.OK {
					t.Fatalf("%+v: %v", v, e)
				}
				x, all = y, all+told
			}
			y, told, e := emu.Feed(api.Term{Screen: s}, text)
			if e != api.OK || told != all || !sameTerm(y, api.Term{Screen: x, Parse: p}) {
				t.Fatalf("%q: %+v, %q, %v\nnot %+v, %q", text, y, told, e, x, all)
			}
		}
	}
}

// P13.3: fed in pieces, of all lengths, it is the same.
func TestPieces(t *testing.T) {
	x, _ := emu.New(4, 6)
	text := some + some
	whole, all, _ := emu.Feed(x, text)
	for n := 1; n <= len(text); n++ {
		y, answers := x, ""
		for piece := range slices.Chunk([]byte(text), n) {
			z, told, e := emu.Feed(y, string(piece))
			if e != api.OK || screen.Check(z.Screen) != api.OK || vt.Check(z.Parse) != api.OK {
				t.Fatalf("%d: %+v, %v", n, z, e)
			}
			y, answers = z, answers+told
		}
		if !sameTerm(y, whole) || answers != all {
			t.Fatalf("%d: %+v, %q\nnot %+v, %q", n, y, answers, whole, all)
		}
	}
}

// P13.1 to P13.3: many events, one behind the other, on screens whose size changes.
func TestManySteps(t *testing.T) {
	seed := uint32(1)
	next := func(n int) int {
		seed = seed*1664525 + 1013904223
		return int(seed>>8) % n
	}
	numbers := []int{-1, 0, 1, 2, 3, 4, 5, 6, 7, 20, 25, 31, 47, 1047, 1049, api.MaxValue}
	x := api.Term{Screen: made(5, 7)}
	for range 20000 {
		v := api.Event{Kind: api.EvCsi, Rune: int("ABCDEFGdHIZfea`JKXP@LMSTmrhlhlsugbnc"[next(36)]), Inter: []string{"", "", "", "?"}[next(4)]}
		for range next(4) {
			v.Params = append(v.Params, numbers[next(len(numbers))])
		}
		switch next(10) {
		case 0:
			x, _ = emu.Resize(x, 1+next(6), 1+next(8))
			continue
		case 1, 2, 3:
			v = api.Event{Kind: api.EvPrint, Rune: []int{'a', 'q', '世', 0x301}[next(4)]}
		case 4:
			v = api.Event{Kind: api.EvControl, Rune: 7 + next(10)}
		case 5:
			v = api.Event{Kind: api.EvEscape, Rune: int("78DMEH=>0B8"[next(11)]), Inter: []string{"", "", "(", ")", "#"}[next(5)]}
		}
		check(t, x.Screen, v)
		x.Screen, _, _ = emu.Do(x.Screen, v)
	}
}

// spoil writes into all memory of x, its spare room too.
func spoil(x api.Term) {
	for _, l := range [][]api.Cell{x.Screen.Main.Cells, x.Screen.Other.Cells} {
		for i := range l[:cap(l)] {
			l[:cap(l)][i] = api.Cell{Rune: '!', Attr: loud}
		}
	}
	for i, on := range x.Screen.Tabs[:cap(x.Screen.Tabs)] {
		x.Screen.Tabs[:cap(x.Screen.Tabs)][i] = !on
	}
	for i := range x.Parse.Params[:cap(x.Parse.Params)] {
		x.Parse.Params[:cap(x.Parse.Params)][i] = 77
	}
}

// roomy is x in memory of its own that has room behind each list.
func roomy(x api.Term) api.Term {
	more := gridOf(1, 3, 9).Cells
	x.Screen.Main.Cells = slices.Concat(x.Screen.Main.Cells, more)[:len(x.Screen.Main.Cells)]
	x.Screen.Other.Cells = slices.Concat(x.Screen.Other.Cells, more)[:len(x.Screen.Other.Cells)]
	x.Screen.Tabs = slices.Concat(x.Screen.Tabs, make([]bool, 3))[:len(x.Screen.Tabs)]
	x.Parse.Params = slices.Concat(x.Parse.Params, []int{5, 6, 7})[:len(x.Parse.Params)]
	return x
}

// room is x with all that its lists have room for.
func room(x api.Term) api.Term {
	s := &x.Screen
	s.Main.Cells, s.Other.Cells, s.Tabs = s.Main.Cells[:cap(s.Main.Cells)], s.Other.Cells[:cap(s.Other.Cells)], s.Tabs[:cap(s.Tabs)]
	x.Parse.Params = x.Parse.Params[:cap(x.Parse.Params)]
	return x
}

// calls are all that tell a terminal of a terminal.
func calls() []func(x api.Term) (api.Term, api.Errno) {
	var l []func(x api.Term) (api.Term, api.Errno)
	for _, size := range [][2]int{{1, 1}, {3, 2}, {5, 9}} {
		l = append(l, func(x api.Term) (api.Term, api.Errno) { return emu.Resize(x, size[0], size[1]) })
	}
	for _, s := range []string{"", ";7", "\x18", "\x18a", "m\x1b[6n", "\x18\x1bc", "\x18\x1bH", "\x18\x1b[g\x1b[3g", "\x18\x1b[?1049h", "\x18\x1b[2J", "\x18\n", "\x18" + some, "\x18" + some + "\x1b[1;2;3"} {
		l = append(l, func(x api.Term) (api.Term, api.Errno) { y, _, e := emu.Feed(x, s); return y, e })
	}
	for _, v := range []api.Event{
		{Kind: api.EvPrint, Rune: 'a'}, {Kind: api.EvPrint, Rune: 0x80}, {Kind: api.EvControl, Rune: 7}, {Kind: api.EvControl, Rune: 9}, {Kind: api.EvControl, Rune: 8}, {Kind: api.EvEscape, Rune: 'H'}, {Kind: api.EvEscape, Rune: 'c'}, {Kind: api.EvEscape, Rune: 'w'},
		{Kind: api.EvCsi, Rune: 'g'}, {Kind: api.EvCsi, Rune: 'g', Params: []int{3}}, {Kind: api.EvCsi, Rune: 'n', Params: []int{6}}, {Kind: api.EvCsi, Rune: 'w'}, {Kind: api.EvCsi, Rune: 'h', Params: []int{4}}, {Kind: api.EvOsc, Text: "0;a"}, {Kind: api.EvOsc},
	} {
		l = append(l, func(x api.Term) (api.Term, api.Errno) {
			s, _, e := emu.Do(x.Screen, v)
			return api.Term{Screen: s}, e
		})
	}
	return l
}

// R1, R2: the same is told again, in new memory, and what is handed in stays, its room too.
func TestOwnMemory(t *testing.T) {
	for _, s := range few() {
		for i, c := range calls() {
			given := roomy(api.Term{Screen: s, Parse: api.Parse{State: api.StCsi, Params: []int{1, 2, 3}}})
			was := roomy(room(given))
			x, e := c(given)
			y, f := c(given)
			if e != api.OK || f != e || !sameTerm(x, y) {
				t.Fatalf("%d: %+v, %v, then %+v, %v", i, x, e, y, f)
			}
			kept := roomy(y)
			spoil(x)
			if !sameTerm(room(given), was) {
				t.Fatalf("%d: what was handed in is now %+v", i, given)
			}
			spoil(given)
			if !sameTerm(y, kept) {
				t.Fatalf("%d: what was told is now %+v", i, y)
			}
		}
	}
}

// R2: the lists of one answer share nothing; nor do two terminals that New tells.
func TestListsApart(t *testing.T) {
	for i, c := range calls() {
		x, _ := c(api.Term{Screen: made(3, 4), Parse: api.Parse{State: api.StCsi}})
		other := slices.Clone(x.Screen.Other.Cells)
		x.Screen.Main.Cells = append(x.Screen.Main.Cells[:cap(x.Screen.Main.Cells)], api.Cell{})
		for k := range x.Screen.Main.Cells {
			x.Screen.Main.Cells[k].Rune = '!'
		}
		if !slices.Equal(x.Screen.Other.Cells, other) {
			t.Errorf("%d: %+v", i, x.Screen.Other)
		}
	}
	x, _ := emu.New(2, 3)
	y, _ := emu.New(2, 3)
	spoil(x)
	if s, _ := screen.New(2, 3); !same(y.Screen, s) {
		t.Errorf("%+v", y)
	}
}
