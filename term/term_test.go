package term_test

import (
	"math"
	"reflect"
	"slices"
	"strconv"
	"strings"
	"testing"

	"beacon/api"
	"beacon/emu"
	"beacon/screen"
	"beacon/term"
	"beacon/vt"
)

// some are bytes that do all sorts of things.
const some = "ab\r\n\x1b[1;31mc\x1b[2;2Hd\x1b[6n世e\u0301\x1b[?1049h\x1b[42mx\x1b[J\x1b]0;ti\xfft\x07\x1b(0q\x1b[3b\x1b[?6h\x1b[2;3r\x1b[H\x1b[5n\x1bM\n\x0b\x1b[4;20h\x1b[@y\x1b7\xe4\xb8\x1b[c\x1b[?1049l\x1b8\x1b[>c\x1b)0\x0ez\x0f\x1b[!p\b\b\t\x1bH\x1b[g\x1b#8\x1b[1L\x1b[99;99Hw\xf0\x9f\x98\x80v\x1b[2S\x1b[K\x1b[r\x1b[s\x1b[u\x18\x1b[1\x1aq"

// words are pieces of such bytes, whole ones and begins of some.
var words = []string{
	"", "abc", "xyz", "世", "e\u0301", "\xe4", "\xb8", "\x96", "\xff", "\x00", "\r\n", "\n", "\b", "\t", "\x0e", "\x0f", "\x18", "\x1a", "\x7f",
	"\x1b", "[", "]", "0;", "5", "?", ";", "A", "B", "h", "\x07", "\x1b\\", "\x1bP", "\x1b7", "\x1b8", "\x1bc", "\x1bM", "\x1bD", "\x1bE", "\x1bH", "\x1b=", "\x1b>", "\x1b#8", "\x1b(0", "\x1b(B", "\x1b)0",
	"\x1b[2J", "\x1b[K", "\x1b[H", "\x1b[3;5H", "\x1b[2;4r", "\x1b[r", "\x1b[?6h", "\x1b[?6l", "\x1b[4h", "\x1b[4l", "\x1b[?7l", "\x1b[?7h", "\x1b[?25l", "\x1b[20h", "\x1b[?1049h", "\x1b[?1049l", "\x1b[41;1m", "\x1b[38;5;200m", "\x1b[m",
	"\x1b[L", "\x1b[2M", "\x1b[3P", "\x1b[2@", "\x1b[S", "\x1b[T", "\x1b[5n", "\x1b[6n", "\x1b[c", "\x1b[>c", "\x1b[!p", "\x1b[9b", "\x1b[3g", "\x1b[1;2", "\x1b]0;title\x07", "\x1b]2;té", some,
}

// plain is x whose empty lists are nil, and in memory of its own.
func plain(x api.Term) api.Term {
	s := &x.Screen
	s.Main.Cells, s.Other.Cells, s.Tabs = slices.Clone(s.Main.Cells), slices.Clone(s.Other.Cells), slices.Clone(s.Tabs)
	x.Parse.Params = append([]int(nil), x.Parse.Params...)
	return x
}

func same(x, y api.Term) bool {
	return reflect.DeepEqual(plain(x), plain(y))
}

func sameView(v, w api.View) bool {
	lists := slices.Equal(v.Grid.Cells, w.Grid.Cells)
	v.Grid.Cells, w.Grid.Cells = nil, nil
	return lists && reflect.DeepEqual(v, w)
}

// fresh is a terminal that New must tell.
func fresh(t *testing.T, rows, cols int) *term.Term {
	t.Helper()
	a, e := term.New(rows, cols)
	if e != api.OK || a == nil {
		t.Fatalf("%d, %d: %v, %v", rows, cols, a, e)
	}
	return a
}

// check holds all that a tells of itself to want and count.
func check(t *testing.T, a *term.Term, want api.Term, count int) {
	t.Helper()
	if x := a.State(); !same(x, want) {
		t.Fatalf("State: %+v\nnot %+v", x, want)
	}
	v, e := screen.View(want.Screen)
	if w := a.View(); e != api.OK || !sameView(v, w) {
		t.Fatalf("View: %+v\nnot %+v, %v", w, v, e)
	}
	if n := a.Count(); n != count {
		t.Fatalf("Count: %d, not %d", n, count)
	}
}

// write writes s, which must not err, and tells the answer.
func write(t *testing.T, a *term.Term, s string) string {
	t.Helper()
	told, e := a.Write(s)
	if e != api.OK {
		t.Fatalf("%q: %v", s, e)
	}
	return told
}

// A steps is a row of numbers that look as if they came by chance.
type steps uint32

func (s *steps) next(n int) int {
	*s = *s*1664525 + 1013904223
	return int(*s>>8) % n
}

// P14.1: New, of all sizes at the edges and of none.
func TestNew(t *testing.T) {
	for _, n := range []int{math.MinInt, -1, 0, 1, 2, 8, 39, 40, 41, 1<<32 + 1, math.MaxInt} {
		for _, m := range []int{math.MinInt, -1, 0, 1, 2, 9, 40, 41, 1 << 32, math.MaxInt} {
			a, e := term.New(n, m)
			x, f := emu.New(n, m)
			if e != f || (a == nil) != (f != api.OK) {
				t.Fatalf("%d, %d: %v, %v", n, m, a, e)
			}
			if a != nil {
				check(t, a, x, 0)
			}
		}
	}
	for _, c := range [][2]int{{0, 1}, {1, 0}, {-1, -1}, {41, 1}, {1, 41}} {
		if a, e := term.New(c[0], c[1]); a != nil || e != api.ErrForm {
			t.Errorf("%v: %v, %v", c, a, e)
		}
	}
}

// P14.1: the example: one cell.
func TestOneCell(t *testing.T) {
	a := fresh(t, 2, 3)
	was := a.View()
	if told := write(t, a, "a"); told != "" {
		t.Errorf("%q", told)
	}
	v := a.View()
	if v.Grid.Cells[0].Rune != 'a' || !slices.Equal(v.Grid.Cells[1:], was.Grid.Cells[1:]) || v.Col != 1 || a.Count() != 1 {
		t.Errorf("%+v, %d", v, a.Count())
	}
}

// seen tells the runes that are seen, rows by |.
func seen(v api.View) string {
	var b strings.Builder
	for i, c := range v.Grid.Cells {
		if i > 0 && i%v.Grid.Cols == 0 {
			b.WriteByte('|')
		}
		if c.Wide != api.WideSecond {
			b.WriteString(string(rune(c.Rune)) + c.Comb)
		}
	}
	return b.String()
}

// P14.1: what is written, one behind the other, and what is answered and seen then.
func TestWrittenOut(t *testing.T) {
	a := fresh(t, 2, 4)
	for i, c := range []struct{ s, told, want string }{
		{"", "", "    |    "},
		{"\x1b[6n", "\x1b[1;1R", "    |    "},
		{"hi\r\nyou\x1b[6n\x1b[5n", "\x1b[2;4R\x1b[0n", "hi  |you "},
		{"\x1b[?1049", "", "hi  |you "},
		{"h\x1b[Hx", "", "x   |    "},
		{"\x1b[c\x1b[>c", "\x1b[?62;22c\x1b[>1;10;0c", "x   |    "},
		{"\x1b[?1049l!\xe4\xb8", "", "hi  |you!"},
		{"\x96", "", "you!|世  "},
		{"\x1b]0;na", "", "you!|世  "},
		{"me\x07\x1b[?25l", "", "you!|世  "},
	} {
		if told := write(t, a, c.s); told != c.told || seen(a.View()) != c.want || a.Count() != i+1 {
			t.Errorf("%q: %q, %q, %d", c.s, told, seen(a.View()), a.Count())
		}
	}
	if v := a.View(); v.Title != "name" || v.Modes != api.ModeWrap || v.Row != 1 || v.Col != 2 {
		t.Errorf("%+v", v)
	}
	for i, c := range []struct {
		rows, cols int
		want       string
	}{{1, 3, "you"}, {2, 5, "you  |     "}, {2, 5, "you  |     "}, {1, 1, "y"}} {
		if e := a.Resize(c.rows, c.cols); e != api.OK || seen(a.View()) != c.want || a.Count() != 11+i {
			t.Errorf("%+v: %v, %q, %d", c, e, seen(a.View()), a.Count())
		}
	}
}

// P14.1: bytes and sizes of all sorts, also wrong ones, against the terminal as data.
func TestManyActs(t *testing.T) {
	for k := range 60 {
		rows, cols := 1+k%7, 1+k%11
		a, count := fresh(t, rows, cols), 0
		x, _ := emu.New(rows, cols)
		s := steps(k)
		for range 150 {
			var e, f api.Errno
			var told, want string
			y := x
			if s.next(12) == 0 {
				rows, cols := s.next(9)-1, s.next(43)-1
				e = a.Resize(rows, cols)
				y, f = emu.Resize(x, rows, cols)
			} else {
				text := words[s.next(len(words))]
				if s.next(40) == 0 {
					text = strings.Repeat("\x1b[5n", 1000) + text
				}
				told, e = a.Write(text)
				y, want, f = emu.Feed(x, text)
			}
			if e != f || told != want {
				t.Fatalf("%d: %q, %v, not %q, %v", k, told, e, want, f)
			}
			if f == api.OK {
				x = y
				count++
			}
			check(t, a, x, count)
		}
	}
}

// P14.1, R4: what errs is told, does nothing, and counts for nothing.
func TestErrors(t *testing.T) {
	long := strings.Repeat("\x1b[6n", api.MaxText/4)
	for _, begin := range []string{"", "ab", "\x1b[1;2", "\xe4\xb8", "\x1b]0;ti", some} {
		a, b := fresh(t, 3, 4), fresh(t, 3, 4)
		write(t, a, begin)
		write(t, b, begin)
		was := b.State()
		for _, s := range []string{long + "a", strings.Repeat("x", api.MaxText+1), strings.Repeat(long, 20), strings.Repeat("\x00", 1<<20)} {
			if told, e := a.Write(s); told != "" || e != api.ErrLimit {
				t.Errorf("%d bytes: %q, %v", len(s), told, e)
			}
			check(t, a, was, 1)
		}
		for _, c := range [][2]int{{0, 1}, {1, 0}, {0, 0}, {-1, 4}, {3, -1}, {41, 4}, {3, 41}, {math.MinInt, math.MaxInt}, {1<<32 + 1, 1}, {1, 1<<32 + 1}} {
			if e := a.Resize(c[0], c[1]); e != api.ErrForm {
				t.Errorf("%v: %v", c, e)
			}
			check(t, a, was, 1)
		}
		if x, y := write(t, a, some+"\x1b[6n"), write(t, b, some+"\x1b[6n"); x != y {
			t.Errorf("%q, not %q", x, y)
		}
		check(t, a, b.State(), 2)
	}
	a := fresh(t, 3, 4)
	if told := write(t, a, long); told != strings.Repeat("\x1b[1;1R", api.MaxText/4) || a.Count() != 1 {
		t.Errorf("%q, %d", told, a.Count())
	}
}

// P14.1: to tell counts for nothing, and changes nothing; each act counts, the empty ones too.
func TestCount(t *testing.T) {
	a := fresh(t, 2, 3)
	for i := range 50 {
		if i%2 == 0 {
			write(t, a, "")
		} else if e := a.Resize(2, 3); e != api.OK {
			t.Fatalf("%v", e)
		}
		x := a.State()
		a.View()
		check(t, a, x, i+1)
		check(t, a, x, i+1)
	}
}

// P14.2, T5: cut into pieces of whatever length, bytes do the same, also ones between sizes.
func TestPieces(t *testing.T) {
	text := some + some + "\x1b[3;1"
	for _, size := range [][2]int{{1, 1}, {4, 6}, {6, 40}} {
		whole := fresh(t, size[0], size[1])
		first := write(t, whole, text)
		middle := whole.State()
		if e := whole.Resize(3, 5); e != api.OK {
			t.Fatalf("%v", e)
		}
		second := write(t, whole, text)
		for n := 1; n <= len(text); n++ {
			a := fresh(t, size[0], size[1])
			pieces := (len(text) + n - 1) / n
			if told := inPieces(t, a, text, n); told != first {
				t.Fatalf("%d: %q, not %q", n, told, first)
			}
			check(t, a, middle, pieces)
			if e := a.Resize(3, 5); e != api.OK {
				t.Fatalf("%v", e)
			}
			if told := inPieces(t, a, text, n); told != second {
				t.Fatalf("%d: %q, not %q", n, told, second)
			}
			check(t, a, whole.State(), 2*pieces+1)
		}
	}
}

// inPieces writes s, n bytes at a time, and tells all answers.
func inPieces(t *testing.T, a *term.Term, s string, n int) string {
	t.Helper()
	all := ""
	for piece := range slices.Chunk([]byte(s), n) {
		all += write(t, a, string(piece))
	}
	return all
}

// P14.2, T5: what is kept is bounded, however long it goes on, and is a terminal that may be.
func TestBounded(t *testing.T) {
	for _, s := range []string{"\x1b]0;", "\x1b]2;ab\x07", "\x1b[", ";", "9", "\x1b(", " ", "a", "\u0301", "世", "\xf0\x9f", "\x1bP", "\x1b[1;31m", "\n", "\x1b[9999b", "\x1bH", "\x1b7", "\x1b[6n"} {
		for _, begin := range []string{"", "\x1b]0;", "\x1b[", "\x1b(", "a"} {
			a := fresh(t, 2, 3)
			write(t, a, begin)
			long := strings.Repeat(s, min(200, api.MaxText/len(s)))
			for range 5 {
				write(t, a, long)
			}
			x := a.State()
			if screen.Check(x.Screen) != api.OK || vt.Check(x.Parse) != api.OK || len(x.Screen.Main.Cells) != 6 || len(x.Screen.Tabs) != 3 {
				t.Errorf("%q, %q: %+v", begin, s, x)
			}
		}
	}
}

// spoil writes into all of a list's memory, its spare room too.
func spoil[T any](l []T, with T) {
	for i := range l[:cap(l)] {
		l[:cap(l)][i] = with
	}
}

// spoilAll does that to all lists of x and v.
func spoilAll(x api.Term, v api.View) {
	bad := api.Cell{Rune: '!', Comb: "\u0302", Attr: api.Attr{Fg: 7, Bg: 7}}
	spoil(x.Screen.Main.Cells, bad)
	spoil(x.Screen.Other.Cells, bad)
	spoil(x.Screen.Tabs, true)
	spoil(x.Parse.Params, 77)
	spoil(v.Grid.Cells, bad)
}

// R2: what is told is nobody else's: neither the terminal's, nor another answer's.
func TestOwnMemory(t *testing.T) {
	for _, s := range []string{"", "ab\x1b[1;2;3", "\x1b[?1049hx\x1b[5;", some + "\x1b[1", some + "\x1b[?1049h世\x1b[0;0;0;"} {
		a, b := fresh(t, 3, 4), fresh(t, 3, 4)
		write(t, a, s)
		write(t, b, s)
		was, seenThen := plain(b.State()), b.View()
		x, v := a.State(), a.View()
		y, w := a.State(), a.View()
		spoilAll(x, v)
		check(t, a, was, 1)
		if !same(y, was) || !sameView(w, seenThen) {
			t.Fatalf("%q: %+v, %+v", s, y, w)
		}
		more := "7mq\x1b[2;2Hxyz\x1bH\x1b[6n\n\n"
		if told, want := write(t, a, more), write(t, b, more); told != want {
			t.Fatalf("%q: %q, not %q", s, told, want)
		}
		check(t, a, b.State(), 2)
		if a.Resize(2, 9) != api.OK || b.Resize(2, 9) != api.OK {
			t.Fatal(s)
		}
		check(t, a, b.State(), 3)
		if !same(y, was) || !sameView(w, seenThen) {
			t.Fatalf("%q: what was told is now %+v, %+v", s, y, w)
		}
	}
}

// R2: the lists of one answer share nothing.
func TestListsApart(t *testing.T) {
	a := fresh(t, 3, 4)
	write(t, a, some)
	x, was := a.State(), plain(a.State())
	spoil(x.Screen.Main.Cells, api.Cell{Rune: '!'})
	if !slices.Equal(x.Screen.Other.Cells, was.Screen.Other.Cells) {
		t.Errorf("%+v", x.Screen.Other)
	}
}

// R1, R2: terminals have nothing in common; to the same acts each tells the same.
func TestApart(t *testing.T) {
	a, b, c := fresh(t, 3, 4), fresh(t, 3, 4), fresh(t, 3, 4)
	at, _ := emu.New(3, 4)
	for i := range 40 {
		s := words[i*7%len(words)] + strconv.Itoa(i)
		if x, y := write(t, a, s), write(t, b, s); x != y {
			t.Fatalf("%q: %q, then %q", s, x, y)
		}
		check(t, a, b.State(), i+1)
		check(t, c, at, 0)
	}
	kept := *a
	was, n := plain(a.State()), a.Count()
	write(t, a, "\x1bc"+some)
	if e := a.Resize(1, 1); e != api.OK {
		t.Fatalf("%v", e)
	}
	check(t, &kept, was, n)
}

// R1: a terminal that New has not made: nothing panics, and nothing is done.
func TestNotMade(t *testing.T) {
	var a term.Term
	for _, s := range []string{"", "a", "\x1b[5n", strings.Repeat("a", api.MaxText+1)} {
		if told, e := a.Write(s); told != "" || e != api.ErrForm {
			t.Errorf("%q: %q, %v", s, told, e)
		}
	}
	for _, n := range []int{0, 1, 41} {
		if e := a.Resize(n, n); e != api.ErrForm {
			t.Errorf("%d: %v", n, e)
		}
	}
	if x, v := a.State(), a.View(); !same(x, api.Term{}) || !sameView(v, api.View{}) || a.Count() != 0 {
		t.Errorf("%+v, %+v, %d", x, v, a.Count())
	}
}
