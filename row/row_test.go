package row_test

import (
	"math"
	"slices"
	"strings"
	"testing"

	"beacon/api"
	"beacon/row"
)

const lastColour = 256 + 1<<24 - 1

func at(fg, bg, flags int) api.Attr { return api.Attr{Fg: fg, Bg: bg, Flags: flags} }

var (
	plain = at(-1, -1, 0)
	loud  = at(lastColour, 200, 255)
)

func whole(r int, comb string, a api.Attr) api.Cell { return api.Cell{Rune: r, Comb: comb, Attr: a} }

func first(r int, comb string, a api.Attr) api.Cell {
	return api.Cell{Rune: r, Comb: comb, Wide: api.WideFirst, Attr: a}
}

func second(a api.Attr) api.Cell { return api.Cell{Wide: api.WideSecond, Attr: a} }

func blank(bg int) api.Cell { return api.Cell{Rune: ' ', Attr: at(-1, bg, 0)} }

func blanks(n, bg int) []api.Cell { return slices.Repeat([]api.Cell{blank(bg)}, n) }

func wide(r int, comb string, a api.Attr) []api.Cell {
	return []api.Cell{first(r, comb, a), second(a)}
}

// wrongAttrs are attributes that may not be.
var wrongAttrs = []api.Attr{at(-2, -1, 0), at(-1, -2, 0), at(lastColour+1, 0, 0), at(0, lastColour+1, 0), at(0, 0, -1), at(0, 0, 256), at(math.MinInt, math.MaxInt, math.MaxInt)}

// rows are all rows of n cells of blanks, marked runes and wide runes, each one of a look of its own.
func rows(n int) [][]api.Cell {
	if n == 0 {
		return [][]api.Cell{nil}
	}
	var all [][]api.Cell
	look := at(n, 10+n, n)
	for _, ahead := range rows(n - 1) {
		all = append(all, slices.Concat(ahead, blanks(1, 10+n)), append(slices.Clone(ahead), whole('a'+n, "\u0301", look)))
	}
	if n > 1 {
		for _, ahead := range rows(n - 2) {
			all = append(all, slices.Concat(ahead, wide('世'+n, "\u0302", look)))
		}
	}
	return all
}

// someRows are all short rows, and long ones.
func someRows() [][]api.Cell {
	var all [][]api.Cell
	for n := 1; n <= 6; n++ {
		all = append(all, rows(n)...)
	}
	pairs := slices.Repeat(wide(0x1f600, "\u0301\u0302", loud), api.MaxSide/2)
	return append(all, blanks(api.MaxSide, -1), pairs, pairs[2:], slices.Concat(blanks(1, 3), pairs[2:], blanks(1, 4)), slices.Concat(blanks(1, 5), pairs[2:]))
}

// A model is a row whose cells know which rune they are of, so that a half knows that it is alone.
type model struct {
	cells []api.Cell
	of    []int
}

func modelOf(l []api.Cell) model {
	m := model{cells: slices.Clone(l)}
	for i, c := range l {
		m.of = append(m.of, i)
		if c.Wide == api.WideSecond {
			m.of[i] = i - 1
		}
	}
	return m
}

func (m model) part(low, high int) model { return model{m.cells[low:high], m.of[low:high]} }

// with puts cells that are of none of the runes behind m.
func (m model) with(l []api.Cell) model {
	return model{slices.Concat(m.cells, l), slices.Concat(m.of, slices.Repeat([]int{-1}, len(l)))}
}

func (m model) then(o model) model {
	return model{slices.Concat(m.cells, o.cells), slices.Concat(m.of, o.of)}
}

// mended makes blanks of the halves that are alone.
func (m model) mended() model {
	x := model{slices.Clone(m.cells), m.of}
	for i, c := range m.cells {
		if c.Wide == api.WideNone || m.of[i] < 0 {
			continue
		}
		count := 0
		for _, o := range m.of {
			if o == m.of[i] {
				count++
			}
		}
		if count < 2 {
			x.cells[i] = blank(c.Attr.Bg)
		}
	}
	return x
}

// cut mends both sides of a place, each for itself.
func (m model) cut(at int) model {
	return m.part(0, at).mended().then(m.part(at, len(m.cells)).mended())
}

func wantPut(l []api.Cell, at int, x []api.Cell) []api.Cell {
	m := modelOf(l)
	return m.part(0, at).with(x).then(m.part(at+len(x), len(l))).mended().cells
}

func wantErase(l []api.Cell, low, high, bg int) []api.Cell {
	m := modelOf(l)
	return m.part(0, low).with(blanks(high-low, bg)).then(m.part(high, len(l))).mended().cells
}

func wantInsert(l []api.Cell, at, n, bg int) []api.Cell {
	m := modelOf(l)
	if n > 0 && at < len(l) {
		m = m.cut(at)
	}
	return m.part(0, at).with(blanks(min(n, api.MaxSide), bg)).then(m.part(at, len(l))).part(0, len(l)).mended().cells
}

func wantDelete(l []api.Cell, at, n, bg int) []api.Cell {
	m, end := modelOf(l), min(at+n, len(l))
	if n > 0 && at < len(l) {
		m = m.cut(at).cut(end)
	}
	return m.part(0, at).then(m.part(end, len(l))).with(blanks(end-at, bg)).mended().cells
}

// same holds an answer against what it should be, and to P5.4.
func same(t *testing.T, got []api.Cell, e api.Errno, want []api.Cell) {
	t.Helper()
	if e != api.OK || !slices.Equal(got, want) {
		t.Fatalf("%+v, %v\nnot %+v", got, e, want)
	}
	if row.Check(got) != api.OK {
		t.Fatalf("it may not be: %+v", got)
	}
}

// refused holds an answer against an error.
func refused(t *testing.T, got []api.Cell, e, want api.Errno) {
	t.Helper()
	if len(got) != 0 || e != want {
		t.Errorf("%+v, %v, not %v", got, e, want)
	}
}

// kinds are cells of all sorts, and whether each may be, wherever it stands.
func kinds() (l []api.Cell, may []bool) {
	add := func(ok bool, cells ...api.Cell) {
		for _, c := range cells {
			l, may = append(l, c), append(may, ok)
		}
	}
	add(true, whole(' ', "", plain), whole('~', "\u0301", loud), whole(0xa0, "\u0301\ufe0f", plain), whole(0x10ffff, "\u200d", plain), whole(0xfffd, "", plain))
	add(true, first('世', "", plain), first(0x1100, "\u0301\u0301", loud), first(0x3fffd, "\u0301", plain), second(plain), second(loud))
	// runes of another width than the cell's
	add(false, api.Cell{}, whole(0, "", plain), whole(31, "", plain), whole(127, "", plain), whole(0x301, "", plain), whole('世', "", plain), whole(0xd800, "", plain))
	add(false, whole(-1, "", plain), whole(0x110000, "", plain), whole(math.MinInt, "", plain), whole(math.MaxInt, "", plain), whole(1<<32+'a', "", plain))
	add(false, first('a', "", plain), first(0, "", plain), first(10, "", plain), first(0x301, "", plain), first(1<<32+'世', "", plain))
	// second halves that have something
	add(false, api.Cell{Rune: ' ', Wide: api.WideSecond, Attr: plain}, api.Cell{Rune: '世', Wide: api.WideSecond, Attr: plain}, api.Cell{Comb: "\u0301", Wide: api.WideSecond, Attr: plain}, api.Cell{Rune: -1, Wide: api.WideSecond, Attr: plain})
	// no such halves
	add(false, api.Cell{Rune: 'a', Wide: -1, Attr: plain}, api.Cell{Rune: '世', Wide: 3, Attr: plain}, api.Cell{Wide: 3, Attr: plain}, api.Cell{Wide: 1 << 32, Rune: 'a', Attr: plain})
	// marks: too many, no marks, no UTF-8
	for _, s := range []string{"a", "世", "\n", "\x00", "\ufffd", "\u0301a", "a\u0301", "\u0301\u0302\u0303", "\xcc", "\x81", "\u0301\xcc", "\xcc\u0301", "\xed\xa0\x80", "\xc0\x80", strings.Repeat("\u0301", 5000)} {
		add(false, whole('a', s, plain), first('世', s, plain))
	}
	for _, a := range wrongAttrs {
		add(false, whole('a', "", a), first('世', "", a), second(a))
	}
	return l, may
}

// P5.1: all rows of up to three cells of all kinds: halves in pairs that look alike, and nothing else.
func TestCheck(t *testing.T) {
	cells, may := kinds()
	check := func(at ...int) {
		var l []api.Cell
		want := api.OK
		for _, i := range at {
			l = append(l, cells[i])
			if !may[i] {
				want = api.ErrForm
			}
		}
		for i, c := range l {
			if c.Wide == api.WideFirst && (i+1 == len(l) || l[i+1].Wide != api.WideSecond || l[i+1].Attr != c.Attr) {
				want = api.ErrForm
			}
			if c.Wide == api.WideSecond && (i == 0 || l[i-1].Wide != api.WideFirst) {
				want = api.ErrForm
			}
		}
		if e := row.Check(l); e != want {
			t.Fatalf("%+v: %v, not %v", l, e, want)
		}
	}
	for i := range cells {
		check(i)
		for j := range cells {
			check(i, j)
			for k := range cells {
				check(i, j, k)
			}
		}
	}
}

// P5.1: the second half looks as the first one, in all that a look is.
func TestCheckLooks(t *testing.T) {
	a := at(1, 2, 3)
	for _, b := range []api.Attr{at(0, 2, 3), at(1, 0, 3), at(1, 2, 0)} {
		if e := row.Check([]api.Cell{first('世', "", a), second(b)}); e != api.ErrForm {
			t.Errorf("%+v: %v", b, e)
		}
	}
	if e := row.Check([]api.Cell{first('世', "\u0301", a), second(a)}); e != api.OK {
		t.Errorf("%v", e)
	}
}

// P5.1: how many cells a row has; what follows the first fault or stands ahead of it does not help.
func TestCheckSides(t *testing.T) {
	for n := range 2*api.MaxSide + 1 {
		want := api.ErrForm
		if 1 <= n && n <= api.MaxSide {
			want = api.OK
		}
		if e := row.Check(blanks(n, 7)); e != want {
			t.Errorf("%d: %v", n, e)
		}
	}
	for i := range api.MaxSide {
		l := blanks(api.MaxSide, -1)
		l[i].Rune = 0
		if e := row.Check(l); e != api.ErrForm {
			t.Errorf("%d: %v", i, e)
		}
	}
	for _, l := range someRows() {
		if e := row.Check(l); e != api.OK {
			t.Errorf("%+v: %v", l, e)
		}
	}
}

// P5.1: Blank.
func TestBlank(t *testing.T) {
	for _, a := range []api.Attr{plain, loud, at(5, 0, 1), at(-1, lastColour, 0)} {
		for n := 1; n <= api.MaxSide; n++ {
			l, e := row.Blank(n, a)
			same(t, l, e, blanks(n, a.Bg))
		}
	}
	for _, n := range []int{0, -1, api.MaxSide + 1, math.MinInt, math.MaxInt, 1 << 32, 1<<32 + 1} {
		l, e := row.Blank(n, plain)
		refused(t, l, e, api.ErrForm)
	}
	for _, a := range wrongAttrs {
		l, e := row.Blank(1, a)
		refused(t, l, e, api.ErrForm)
	}
}

// P5.2: runes of both widths at each place of all rows.
func TestPut(t *testing.T) {
	for _, l := range someRows() {
		for i := range l {
			for _, r := range []int{' ', 'x', 0xa0, 0x10ffff} {
				x, e := row.Put(l, i, r, loud)
				same(t, x, e, wantPut(l, i, []api.Cell{whole(r, "", loud)}))
			}
			for _, r := range []int{0x1100, '界', 0x3fffd} {
				x, e := row.Put(l, i, r, loud)
				if i == len(l)-1 {
					refused(t, x, e, api.ErrFull)
					continue
				}
				same(t, x, e, wantPut(l, i, wide(r, "", loud)))
			}
		}
	}
}

// P5.2: what is put over halves, written out.
func TestPutOverHalves(t *testing.T) {
	a, b, c := at(1, 2, 3), at(4, 5, 6), at(7, 8, 9)
	l := slices.Concat(wide('世', "\u0301", a), wide('界', "\u0302", b))
	x, e := row.Put(l, 1, '中', c)
	same(t, x, e, []api.Cell{blank(2), first('中', "", c), second(c), blank(5)})
	x, e = row.Put(l, 0, 'x', c)
	same(t, x, e, append([]api.Cell{whole('x', "", c), blank(2)}, wide('界', "\u0302", b)...))
	x, e = row.Put(l, 3, 'x', c)
	same(t, x, e, append(wide('世', "\u0301", a), blank(5), whole('x', "", c)))
	x, e = row.Put(l, 2, '中', c)
	same(t, x, e, append(wide('世', "\u0301", a), wide('中', "", c)...))
}

// P5.2: wrong input of Put; ErrForm ahead of ErrFull.
func TestPutWrong(t *testing.T) {
	l := blanks(3, -1)
	put := func(l []api.Cell, i, r int, a api.Attr) {
		t.Helper()
		x, e := row.Put(l, i, r, a)
		refused(t, x, e, api.ErrForm)
	}
	for _, i := range []int{-1, 3, 4, math.MinInt, math.MaxInt, 1 << 32} {
		put(l, i, 'a', plain)
		put(l, i, '世', plain)
	}
	for _, r := range []int{0, 10, 127, 0x301, 0x200d, 0xd800, -1, 0x110000, math.MinInt, math.MaxInt, 1<<32 + 'a'} {
		put(l, 0, r, plain)
		put(l, 2, r, plain)
	}
	for _, a := range wrongAttrs {
		put(l, 0, 'a', a)
		put(l, 2, '世', a)
	}
	for _, l := range wrongRows() {
		put(l, 0, 'a', plain)
		put(l, len(l)-1, '世', plain)
	}
}

// wrongRows are rows that may not be.
func wrongRows() [][]api.Cell {
	return [][]api.Cell{
		nil, {}, make([]api.Cell, 2), blanks(api.MaxSide+1, -1), {whole('a', "a", plain), blank(1)}, {blank(0), whole('a', "", at(-2, 0, 0))},
		{first('世', "", plain)}, {second(plain)}, {blank(-1), second(plain)}, {first('世', "", plain), second(loud)}, {second(plain), first('世', "", plain)}, {blank(0), first('世', "", plain)},
	}
}

// P5.2: marks at each place of all rows; the third one is too many.
func TestComb(t *testing.T) {
	for _, l := range someRows() {
		for i := range l {
			own := i
			if l[i].Wide == api.WideSecond {
				own = i - 1
			}
			x, want := l, slices.Clone(l)
			for _, r := range []rune{0x300, 0x200d, 0xfe2f} {
				if n := len([]rune(want[own].Comb)); n < 2 {
					want[own].Comb += string(r)
				}
				var e api.Errno
				x, e = row.Comb(x, i, int(r))
				same(t, x, e, want)
			}
		}
	}
}

// P5.2: wrong input of Comb.
func TestCombWrong(t *testing.T) {
	l := append(blanks(1, -1), wide('世', "\u0301\u0302", plain)...)
	comb := func(l []api.Cell, i, r int) {
		t.Helper()
		x, e := row.Comb(l, i, r)
		refused(t, x, e, api.ErrForm)
	}
	for _, i := range []int{-1, 3, math.MinInt, math.MaxInt, 1 << 32} {
		comb(l, i, 0x301)
	}
	for i := range l {
		for _, r := range []int{'a', '世', 0, 10, 127, -1, 0xd800, 0x110000, 0x2ff, 0x370, math.MinInt, math.MaxInt, 1<<32 + 0x301} {
			comb(l, i, r)
		}
	}
	for _, l := range wrongRows() {
		comb(l, 0, 0x301)
	}
}

// P5.3: Erase of all spans of all rows.
func TestErase(t *testing.T) {
	for _, l := range someRows() {
		for low := range len(l) + 1 {
			for high := low; high <= len(l); high++ {
				x, e := row.Erase(l, low, high, loud)
				same(t, x, e, wantErase(l, low, high, loud.Bg))
			}
		}
	}
}

// counts are how many cells Insert and Delete are asked for of a row of n.
func counts(n int) []int {
	l := []int{api.MaxValue - 1, api.MaxValue}
	for i := range n + 3 {
		l = append(l, i)
	}
	return l
}

// P5.3: Insert and Delete of all counts at all places of all rows.
func TestInsertDelete(t *testing.T) {
	for _, l := range someRows() {
		for i := range len(l) + 1 {
			for _, n := range counts(len(l)) {
				x, e := row.Insert(l, i, n, loud)
				same(t, x, e, wantInsert(l, i, n, loud.Bg))
				x, e = row.Delete(l, i, n, loud)
				same(t, x, e, wantDelete(l, i, n, loud.Bg))
			}
		}
	}
}

// P5.3: halves at the places where a row is cut, written out.
func TestMovesOfHalves(t *testing.T) {
	a, b := at(1, 2, 3), at(4, 5, 6)
	l := slices.Concat(wide('世', "\u0301", a), wide('界', "\u0302", b))
	erase := func(low, high int, want ...api.Cell) {
		t.Helper()
		x, e := row.Erase(l, low, high, loud)
		same(t, x, e, want)
	}
	insert := func(at, n int, want ...api.Cell) {
		t.Helper()
		x, e := row.Insert(l, at, n, loud)
		same(t, x, e, want)
	}
	remove := func(at, n int, want ...api.Cell) {
		t.Helper()
		x, e := row.Delete(l, at, n, loud)
		same(t, x, e, want)
	}
	erase(1, 1, l...)
	erase(1, 2, blank(2), blank(200), l[2], l[3])
	erase(1, 3, blank(2), blank(200), blank(200), blank(5))
	insert(1, 0, l...)
	insert(4, 2, l...)
	insert(0, 1, blank(200), l[0], l[1], blank(5))
	insert(1, 1, blank(2), blank(200), blank(2), blank(5))
	insert(1, 3, blank(2), blank(200), blank(200), blank(200))
	insert(3, 1, l[0], l[1], blank(5), blank(200))
	remove(1, 0, l...)
	remove(4, 2, l...)
	remove(0, 1, blank(2), l[2], l[3], blank(200))
	remove(1, 1, blank(2), l[2], l[3], blank(200))
	remove(1, 2, blank(2), blank(5), blank(200), blank(200))
	remove(0, 2, l[2], l[3], blank(200), blank(200))
	remove(3, api.MaxValue, l[0], l[1], blank(5), blank(200))
}

// P5.3: wrong input of Erase, Insert and Delete.
func TestMovesWrong(t *testing.T) {
	span := func(l []api.Cell, i, n int, a api.Attr) {
		t.Helper()
		x, e := row.Erase(l, i, n, a)
		refused(t, x, e, api.ErrForm)
	}
	move := func(l []api.Cell, i, n int, a api.Attr) {
		t.Helper()
		x, e := row.Insert(l, i, n, a)
		refused(t, x, e, api.ErrForm)
		x, e = row.Delete(l, i, n, a)
		refused(t, x, e, api.ErrForm)
	}
	l := blanks(3, -1)
	for _, c := range [][2]int{{-1, 2}, {-1, -1}, {2, 1}, {3, 0}, {0, 4}, {4, 4}, {3, 4}, {math.MinInt, math.MaxInt}, {0, math.MaxInt}, {math.MinInt, 0}, {1 << 32, 1 << 32}} {
		span(l, c[0], c[1], plain)
	}
	for _, c := range [][2]int{{-1, 0}, {4, 0}, {-1, 1}, {4, 1}, {0, -1}, {3, -1}, {0, api.MaxValue + 1}, {3, api.MaxValue + 1}, {math.MinInt, 1}, {math.MaxInt, 1}, {1, math.MinInt}, {1, math.MaxInt}, {1 << 32, 1}, {1, 1 << 32}} {
		move(l, c[0], c[1], plain)
	}
	for _, a := range wrongAttrs {
		span(l, 0, 0, a)
		span(l, 0, 2, a)
		move(l, 0, 0, a)
		move(l, 3, 1, a)
	}
	for _, l := range wrongRows() {
		span(l, 0, 0, plain)
		move(l, 0, 0, plain)
		move(l, 0, 1, plain)
	}
}

// calls are one of each face's that tells a row, some of them where nothing changes.
var calls = []func(l []api.Cell) ([]api.Cell, api.Errno){
	func(l []api.Cell) ([]api.Cell, api.Errno) { return row.Blank(len(l), plain) },
	func(l []api.Cell) ([]api.Cell, api.Errno) { return row.Put(l, 1, 'x', loud) },
	func(l []api.Cell) ([]api.Cell, api.Errno) { return row.Put(l, 1, '界', loud) },
	func(l []api.Cell) ([]api.Cell, api.Errno) { return row.Comb(l, 1, 0x301) },
	func(l []api.Cell) ([]api.Cell, api.Errno) { return row.Comb(l, 3, 0x301) },
	func(l []api.Cell) ([]api.Cell, api.Errno) { return row.Erase(l, 1, 3, loud) },
	func(l []api.Cell) ([]api.Cell, api.Errno) { return row.Erase(l, 1, 1, loud) },
	func(l []api.Cell) ([]api.Cell, api.Errno) { return row.Insert(l, 1, 1, loud) },
	func(l []api.Cell) ([]api.Cell, api.Errno) { return row.Insert(l, 1, 0, loud) },
	func(l []api.Cell) ([]api.Cell, api.Errno) { return row.Insert(l, 4, 1, loud) },
	func(l []api.Cell) ([]api.Cell, api.Errno) { return row.Delete(l, 1, 1, loud) },
	func(l []api.Cell) ([]api.Cell, api.Errno) { return row.Delete(l, 1, 0, loud) },
	func(l []api.Cell) ([]api.Cell, api.Errno) { return row.Delete(l, 4, 1, loud) },
	func(l []api.Cell) ([]api.Cell, api.Errno) { return row.Put(l, 3, '界', loud) },
}

// R2: what is handed in stays, the room behind it too, and what was told is nobody else's memory.
func TestOwnMemory(t *testing.T) {
	given := slices.Concat(wide('世', "", at(1, 2, 3)), []api.Cell{whole('a', "", plain), whole('b', "\u0301\u0302", plain)}, blanks(6, 9))
	for i, call := range calls {
		room := slices.Clone(given)
		l := room[:4]
		x, e := call(l)
		y, f := call(l)
		if !slices.Equal(x, y) || e != f {
			t.Errorf("%d: %+v, then %+v", i, x, y)
		}
		kept := slices.Clone(y)
		full := x[:cap(x)]
		for k := range full {
			full[k] = whole('!', "", loud)
		}
		if !slices.Equal(room, given) {
			t.Errorf("%d: what was handed in is now %+v", i, room)
		}
		for k := range room {
			room[k] = whole('?', "", loud)
		}
		if !slices.Equal(y, kept) {
			t.Errorf("%d: what was told is now %+v", i, y)
		}
	}
}
