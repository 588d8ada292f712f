package pack_test

import (
	"math"
	"reflect"
	"slices"
	"strings"
	"testing"

	"beacon/api"
	"beacon/pack"
	"beacon/patch"
)

var (
	plain = api.Attr{Fg: -1, Bg: -1}
	loud  = api.Attr{Fg: 3, Bg: 256 + 1<<24 - 1, Flags: 255}
)

// top is the first number that has no bytes.
const top = 1 << 35

// bytesOf are n's, as the chapter says: seven bits each, bit 7 of all but the last one.
func bytesOf(n int) string {
	if n < 128 {
		return string([]byte{byte(n)})
	}
	return string([]byte{byte(128 + n%128)}) + bytesOf(n/128)
}

// textOf are the bytes of s as a text.
func textOf(s string) string {
	return bytesOf(len(s)) + s
}

// A part is one of what makes a patch's bytes: a number or a text.
type part struct {
	n    int
	s    string
	text bool
}

func (x part) bytes() string {
	if x.text {
		return textOf(x.s)
	}
	return bytesOf(x.n)
}

func joined(l []part) string {
	var b strings.Builder
	for _, x := range l {
		b.WriteString(x.bytes())
	}
	return b.String()
}

// partsOf are p's, as the chapter lists them, whether p may be or not.
func partsOf(p api.Patch) []part {
	all := 0
	if p.All {
		all = 1
	}
	l := []part{{n: p.Rows}, {n: p.Cols}, {n: all}, {n: len(p.At)}}
	for _, i := range p.At {
		l = append(l, part{n: i})
	}
	for _, c := range p.Cells {
		l = append(l, part{n: c.Rune}, part{n: c.Wide}, part{n: c.Attr.Fg + 1}, part{n: c.Attr.Bg + 1}, part{n: c.Attr.Flags}, part{s: c.Comb, text: true})
	}
	return append(l, part{n: p.Row}, part{n: p.Col}, part{n: p.Modes}, part{s: p.Title, text: true})
}

// want are p's bytes.
func want(p api.Patch) string {
	return joined(partsOf(p))
}

// wide is a rune of width 2.
func wide(r int, a api.Attr) []api.Cell {
	return []api.Cell{{Rune: r, Wide: api.WideFirst, Comb: "\u0301", Attr: a}, {Wide: api.WideSecond, Attr: a}}
}

// line is a row that no other seed has: marked runes, and wide ones.
func line(seed, cols int) []api.Cell {
	var l []api.Cell
	for k := seed; len(l) < cols; k++ {
		a := api.Attr{Fg: seed*1000 - 1, Bg: len(l) - 1, Flags: k % 256}
		if k%2 == 1 && len(l)+2 <= cols {
			l = append(l, wide('世'+k, a)...)
			continue
		}
		l = append(l, api.Cell{Rune: 'a' + k%26, Comb: strings.Repeat("\u20d0", k%3), Attr: a})
	}
	return l
}

// some is a patch that has the rows at at.
func some(rows, cols int, at ...int) api.Patch {
	p := api.Patch{Rows: rows, Cols: cols, At: at, Row: rows / 2, Col: cols - 1, Modes: rows * 300 % 1024, Title: "té"}
	for _, i := range at {
		p.Cells = append(p.Cells, line(i, cols)...)
	}
	return p
}

// whole is a patch that has all rows.
func whole(rows, cols int) api.Patch {
	p := some(rows, cols, upTo(rows)...)
	p.All, p.At = true, nil
	return p
}

// upTo are the numbers below n.
func upTo(n int) []int {
	l := make([]int, n)
	for i := range l {
		l[i] = i
	}
	return l
}

// single is a patch of the cells l alone.
func single(l ...api.Cell) api.Patch {
	return api.Patch{Rows: 1, Cols: len(l), All: true, Cells: l, Modes: 300, Title: "t"}
}

// samples are patches that may be, of all sorts.
func samples() []api.Patch {
	l := []api.Patch{
		single(api.Cell{Rune: 'a', Attr: plain}),
		single(api.Cell{Rune: 0x10ffff, Comb: "\u0300\ufe2f", Attr: loud}),
		single(wide('世', loud)...),
		some(1, 1), some(1, 1, 0), some(3, 2), some(3, 2, 0, 2), some(3, 2, 1), some(3, 2, 0, 1, 2), whole(3, 2), whole(2, 3),
		some(2, 3), some(api.MaxSide, 1, api.MaxSide-1), some(1, api.MaxSide, 0), some(api.MaxSide, 2, upTo(api.MaxSide)...),
	}
	bare := some(2, 2, 1)
	bare.Row, bare.Col, bare.Modes, bare.Title = 0, 0, 0, ""
	full := whole(2, 2)
	full.Row, full.Col, full.Modes, full.Title = 1, 1, 1023, strings.Repeat("世", 21)+"x"
	return append(l, bare, full)
}

func same(a, b api.Patch) bool {
	lists := slices.Equal(a.At, b.At) && slices.Equal(a.Cells, b.Cells)
	a.At, a.Cells, b.At, b.Cells = nil, nil, nil, nil
	return lists && reflect.DeepEqual(a, b)
}

// undo holds p and its bytes to each other.
func undo(t *testing.T, p api.Patch) {
	t.Helper()
	s, e := pack.Patch(p)
	if s != want(p) || e != api.OK {
		t.Fatalf("%+v: %x, %v, not %x", p, s, e, want(p))
	}
	x, e := pack.Take(s)
	if !same(x, p) || e != api.OK {
		t.Fatalf("%x: %+v, %v, not %+v", s, x, e, p)
	}
}

// refused holds Take to refusing s.
func refused(t *testing.T, s string) {
	t.Helper()
	if p, e := pack.Take(s); e != api.ErrBad || !reflect.DeepEqual(p, api.Patch{}) {
		t.Fatalf("%.200x: %+v, %v", s, p, e)
	}
}

// wrong holds both calls to refusing p, whose numbers are those of some bytes.
func wrong(t *testing.T, p api.Patch) {
	t.Helper()
	if s, e := pack.Patch(p); s != "" || e != api.ErrForm {
		t.Fatalf("%+v: %x, %v", p, s, e)
	}
	refused(t, want(p))
}

// may holds both calls to whether p may be.
func may(t *testing.T, p api.Patch, ok bool) {
	t.Helper()
	if ok {
		undo(t, p)
	} else {
		wrong(t, p)
	}
}

// either holds Take to telling the patch whose bytes s is, or to refusing s; it tells which.
func either(t *testing.T, s string) bool {
	t.Helper()
	p, e := pack.Take(s)
	if e != api.OK {
		refused(t, s)
		return false
	}
	if patch.May(p) != api.OK || want(p) != s {
		t.Fatalf("%x: %+v", s, p)
	}
	return true
}

// numbers are small ones, and those about each count of bits that bytes may have.
func numbers() []int {
	l := upTo(1 << 17)
	for bits := 17; bits <= 35; bits++ {
		for d := -300; d <= 300; d++ {
			if n := 1<<bits + d; n < top {
				l = append(l, n)
			}
		}
	}
	return append(l, 0x5a5a5a5a5, 0x2a5a5a5a5, 1<<34+1<<27+1<<20+1<<13+1<<6)
}

// P17.1: the example, and others, written out.
func TestNumbersWrittenOut(t *testing.T) {
	for n, want := range map[int]string{0: "\x00", 1: "\x01", 127: "\x7f", 128: "\x80\x01", 255: "\xff\x01", 256: "\x80\x02", 300: "\xac\x02", 1<<14 - 1: "\xff\x7f", 1 << 14: "\x80\x80\x01", 1<<21 - 1: "\xff\xff\x7f", 1 << 21: "\x80\x80\x80\x01", 1<<28 - 1: "\xff\xff\xff\x7f", 1 << 28: "\x80\x80\x80\x80\x01", 1 << 34: "\x80\x80\x80\x80\x40", top - 1: "\xff\xff\xff\xff\x7f"} {
		if s, e := pack.Number(n); s != want || e != api.OK {
			t.Errorf("%d: %x, %v, not %x", n, s, e, want)
		}
		if x, rest, e := pack.TakeNumber(want); x != n || rest != "" || e != api.OK {
			t.Errorf("%x: %d, %x, %v, not %d", want, x, rest, e, n)
		}
	}
}

// P17.1, P17.3: numbers as bytes, and back, whatever is behind.
func TestNumbers(t *testing.T) {
	for _, n := range numbers() {
		s, e := pack.Number(n)
		if s != bytesOf(n) || e != api.OK {
			t.Fatalf("%d: %x, %v, not %x", n, s, e, bytesOf(n))
		}
		for _, behind := range []string{"", "\x00", "\x01", "\x7f", "\x80", "\xff\xff\xff\xff\xff\xff", "some text", s} {
			if x, rest, e := pack.TakeNumber(s + behind); x != n || rest != behind || e != api.OK {
				t.Fatalf("%x, %x: %d, %x, %v, not %d", s, behind, x, rest, e, n)
			}
		}
	}
}

// P17.1, R4: numbers that have no bytes.
func TestWrongNumbers(t *testing.T) {
	l := []int{math.MinInt, math.MinInt + 1, math.MinInt + 300, -top - 1, -top, -top + 1, -1 << 32, -300, -128, -2, -1, top, top + 1, top + 300, 2*top - 1, 2 * top, 1 << 36, 1 << 42, 1 << 49, 1 << 56, 1 << 62, math.MaxInt - 1, math.MaxInt}
	for bits := 35; bits < 63; bits++ {
		l = append(l, 1<<bits, 1<<bits+1, -1<<bits, -1<<bits+1)
	}
	for _, n := range l {
		if s, e := pack.Number(n); s != "" || e != api.ErrForm {
			t.Errorf("%d: %x, %v", n, s, e)
		}
	}
}

// lastOf is the place of the first byte of s that ends a number; -1, if there is none.
func lastOf(s string) int {
	for i := range len(s) {
		if s[i] < 128 {
			return i
		}
	}
	return -1
}

// taken holds TakeNumber of s against the chapter's words.
func taken(t *testing.T, s string) {
	t.Helper()
	x, rest, e := pack.TakeNumber(s)
	last := lastOf(s)
	if last < 0 || last > 4 || last > 0 && s[last] == 0 {
		if x != 0 || rest != "" || e != api.ErrBad {
			t.Fatalf("%x: %d, %x, %v", s, x, rest, e)
		}
		return
	}
	n := 0
	for i := last; i >= 0; i-- {
		n = n*128 + int(s[i])%128
	}
	if x != n || rest != s[last+1:] || e != api.OK {
		t.Fatalf("%x: %d, %x, %v, not %d", s, x, rest, e, n)
	}
	if got, e := pack.Number(n); got != s[:last+1] || e != api.OK {
		t.Fatalf("%d: %x, %v, not %x", n, got, e, s[:last+1])
	}
}

// P17.1, P17.3, R4: all texts of up to two bytes, and of up to seven of some.
func TestTakeNumber(t *testing.T) {
	taken(t, "")
	for a := range 256 {
		taken(t, string([]byte{byte(a)}))
		for b := range 256 {
			taken(t, string([]byte{byte(a), byte(b)}))
		}
	}
	const some = "\x00\x01\x7f\x80\xff"
	l := []string{""}
	for range 7 {
		var longer []string
		for _, s := range l {
			for i := range len(some) {
				longer = append(longer, s+some[i:i+1])
			}
		}
		l = longer
		for _, s := range l {
			taken(t, s)
		}
	}
	for _, c := range "\x00\x01\x7f\u0080\u00ff" {
		taken(t, strings.Repeat(string([]byte{byte(c)}), 1<<20))
	}
}

// P17.2: patches written out: one of all, one of no rows, one of a row.
func TestPatchesWrittenOut(t *testing.T) {
	for _, c := range []struct {
		p    api.Patch
		want string
	}{
		{single(api.Cell{Rune: 'a', Attr: plain}), "\x01\x01\x01\x00a\x00\x00\x00\x00\x00\x00\x00\xac\x02\x01t"},
		{api.Patch{Rows: 40, Cols: 39, Row: 38, Col: 37, Modes: 1023}, "\x28\x27\x00\x00\x26\x25\xff\x07\x00"},
		{api.Patch{Rows: 3, Cols: 2, At: []int{2}, Cells: []api.Cell{
			{Rune: '世', Comb: "\u0301\u0302", Wide: api.WideFirst, Attr: loud},
			{Wide: api.WideSecond, Attr: loud},
		}, Row: 1, Modes: 128, Title: "é"}, "\x03\x02\x00\x01\x02" + "\x96\x9c\x01\x01\x04\x80\x82\x80\x08\xff\x01\x04\xcc\x81\xcc\x82" + "\x00\x02\x04\x80\x82\x80\x08\xff\x01\x00" + "\x01\x00\x80\x01\x02é"},
	} {
		if s, e := pack.Patch(c.p); s != c.want || e != api.OK {
			t.Errorf("%+v: %x, %v, not %x", c.p, s, e, c.want)
		}
		if p, e := pack.Take(c.want); !same(p, c.p) || e != api.OK {
			t.Errorf("%x: %+v, %v, not %+v", c.want, p, e, c.p)
		}
	}
}

// P17.2, P17.3: all choices of rows, of many sizes.
func TestRows(t *testing.T) {
	for rows := 1; rows <= 5; rows++ {
		for cols := 1; cols <= 4; cols++ {
			undo(t, whole(rows, cols))
			for n := range 1 << rows {
				var at []int
				for i := range rows {
					if n>>i&1 == 1 {
						at = append(at, i)
					}
				}
				undo(t, some(rows, cols, at...))
			}
		}
	}
	for _, n := range []int{1, 2, 31, 39, api.MaxSide} {
		for _, size := range [][2]int{{n, 1}, {1, n}, {n, api.MaxSide}, {api.MaxSide, n}} {
			undo(t, whole(size[0], size[1]))
			undo(t, some(size[0], size[1], upTo(size[0])...))
			undo(t, some(size[0], size[1]))
			for i := range size[0] {
				undo(t, some(size[0], size[1], i))
			}
		}
	}
	for _, p := range samples() {
		undo(t, p)
	}
}

// P17.2, P17.3: each field of a cell, at the edges of what it may be and beyond.
func TestCells(t *testing.T) {
	for n := 0; n < 0x110100; n++ {
		if n > 0x3000 && n < 0x10ff00 && n%61 != 0 {
			continue
		}
		p, q := single(api.Cell{Rune: n, Attr: plain}), single(wide(n, loud)...)
		may(t, p, patch.May(p) == api.OK)
		may(t, q, patch.May(q) == api.OK)
	}
	for flags := range 260 {
		may(t, single(api.Cell{Rune: 'a', Attr: api.Attr{Fg: 1, Bg: 2, Flags: flags}}), flags < 256)
	}
	const most = 256 + 1<<24 - 1
	for _, colour := range []int{-1, 0, 1, 7, 126, 127, 255, 256, 1<<14 - 2, 1<<14 - 1, 1<<21 - 2, 1<<21 - 1, most - 1, most, most + 1, most + 2, top - 2} {
		may(t, single(api.Cell{Rune: 'a', Attr: api.Attr{Fg: colour, Bg: 5}}), colour <= most)
		may(t, single(api.Cell{Rune: 'a', Attr: api.Attr{Fg: 5, Bg: colour}}), colour <= most)
	}
	for _, comb := range []string{"", "\u0300", "\u036f", "\u200b\u200f", "\ufe0f\ufe2f"} {
		may(t, single(api.Cell{Rune: 'a', Comb: comb, Attr: plain}), true)
	}
	for _, comb := range []string{"a", "\x00", "\u0300a", "\u0300\u0301\u0302", "\xcc", "\xcc\x81\xcc", "\xff", "\xe0\x8c\x80", strings.Repeat("\u0300", 1000)} {
		may(t, single(api.Cell{Rune: 'a', Comb: comb, Attr: plain}), false)
	}
	first, second := wide('世', loud)[0], wide('世', loud)[1]
	other, marked := second, second
	other.Attr.Fg, marked.Comb = 4, "\u0300"
	for _, l := range [][]api.Cell{{first}, {second}, {second, first}, {first, first}, {second, second}, {first, other}, {first, marked}, {first, {Rune: ' ', Attr: loud}}, {{Rune: 'a', Wide: 3, Attr: plain}}, {{}}} {
		may(t, single(l...), false)
	}
	// A wide rune that lies over the end of a row.
	p := some(2, 2, 0, 1)
	p.Cells = []api.Cell{{Rune: 'a', Attr: plain}, first, second, {Rune: 'a', Attr: plain}}
	may(t, p, false)
}

// P17.2, P17.3: all else of a patch, at the edges of what it may be and beyond.
func TestFields(t *testing.T) {
	for _, p := range []api.Patch{some(3, 4), some(3, 4, 1), whole(3, 4)} {
		for n := range 1100 {
			x, y, z := p, p, p
			x.Row, y.Col, z.Modes = n, n, n
			may(t, x, n < 3)
			may(t, y, n < 4)
			may(t, z, n < 1024)
		}
		for _, n := range []int{1 << 14, 1 << 32, 1<<32 + 1, top - 1} {
			x, y, z := p, p, p
			x.Row, y.Col, z.Modes = n, n, n
			may(t, x, false)
			may(t, y, false)
			may(t, z, false)
		}
		for n := range 200 {
			p.Title = strings.Repeat("x", n)
			may(t, p, n <= api.MaxString)
		}
		for _, title := range []string{" ", "\x7f", "\u0080", "\ufffd", "\U0010ffff", strings.Repeat("é", 32)} {
			p.Title = title
			may(t, p, true)
		}
		for _, title := range []string{"\x00", "\x1f", "a\n", "\xff", "é\xc3", "\xed\xa0\x80", strings.Repeat("é", 32) + "x", strings.Repeat("x", 1<<16)} {
			p.Title = title
			may(t, p, false)
		}
	}
}

// P17.2: sizes and lists of rows that may not be, with as many cells as they claim, and with others.
func TestWrongSizes(t *testing.T) {
	for _, s := range [][2]int{{0, 0}, {0, 1}, {1, 0}, {0, 40}, {api.MaxSide + 1, 1}, {1, api.MaxSide + 1}, {api.MaxSide + 1, api.MaxSide + 1}, {1 << 17, 1 << 17}, {1 << 32, 1 << 32}, {1<<32 + 1, 1}, {1, 1<<32 + 1}, {top - 1, top - 1}} {
		var cells []api.Cell
		if n := s[0] * s[1]; s[0] < 100 && s[1] < 100 {
			cells = slices.Repeat([]api.Cell{{Rune: 'a', Attr: plain}}, n)
		}
		wrong(t, api.Patch{Rows: s[0], Cols: s[1], All: true, Cells: cells})
		wrong(t, api.Patch{Rows: s[0], Cols: s[1], Cells: cells})
		wrong(t, api.Patch{Rows: s[0], Cols: s[1]})
		wrong(t, api.Patch{Rows: s[0], Cols: s[1], At: []int{0}, Cells: cells})
	}
	for _, at := range [][]int{{3}, {0, 0}, {1, 0}, {2, 2}, {0, 3}, {0, 1, 3}, {0, 2, 1}, {0, 1, 2, 2}, {0, 1, 2, 3}, {128}, {1 << 32}, {1<<32 + 1}, {top - 1}} {
		p := some(3, 2)
		p.At, p.Cells = at, slices.Repeat(line(1, 2), len(at))
		wrong(t, p)
	}
	for n := range 5 {
		p, q := some(3, 2, 0, 2), whole(2, 2)
		p.Cells, q.Cells = slices.Repeat(line(1, 1), n), slices.Repeat(line(1, 1), n)
		may(t, p, n == 4)
		may(t, q, n == 4)
	}
	for _, at := range [][]int{{0}, {1}, {0, 1}} {
		p := whole(2, 2)
		p.At = at
		wrong(t, p)
		p.Cells = append(p.Cells, slices.Repeat(line(1, 2), len(at))...)
		wrong(t, p)
	}
	wrong(t, api.Patch{})
	wrong(t, api.Patch{All: true})
}

// P17.2, R4: numbers that are below all bytes' numbers; only Patch can be given them.
func TestFarNumbers(t *testing.T) {
	for _, far := range []int{-1, -2, -128, -top, -1 << 32, math.MinInt, math.MinInt + 1, top, top + 1, math.MaxInt} {
		for i, turn := range []func(p *api.Patch){
			func(p *api.Patch) { p.Rows = far },
			func(p *api.Patch) { p.Cols = far },
			func(p *api.Patch) { p.At[0] = far },
			func(p *api.Patch) { p.Row = far },
			func(p *api.Patch) { p.Col = far },
			func(p *api.Patch) { p.Modes = far },
			func(p *api.Patch) { p.Cells[0].Rune = far },
			func(p *api.Patch) { p.Cells[0].Wide = far },
			func(p *api.Patch) { p.Cells[0].Attr.Flags = far },
			func(p *api.Patch) { p.Cells[0].Attr.Fg = far - 1 },
			func(p *api.Patch) { p.Cells[0].Attr.Bg = far - 1 },
		} {
			p := some(2, 1, 0)
			turn(&p)
			if s, e := pack.Patch(p); s != "" || e != api.ErrForm {
				t.Errorf("%d, %d: %x, %v", far, i, s, e)
			}
		}
	}
}

// P17.2: All is 1 or 0.
func TestAll(t *testing.T) {
	for _, p := range []api.Patch{some(2, 1), some(2, 1, 0), some(2, 1, 0, 1), whole(2, 1)} {
		for _, n := range []int{2, 3, 127, 128, 129, 255, 256, 257, 1 << 32, 1<<32 + 1, top - 1} {
			l := partsOf(p)
			l[2].n = n
			refused(t, joined(l))
		}
	}
	// The other truth: a whole has no cells then, rows are in a list and all are there, too.
	for _, p := range samples() {
		l := partsOf(p)
		l[2].n = 1 - l[2].n
		refused(t, joined(l))
	}
}

// P17.2, P17.3: each byte of each sample as any other: either it is some patch's bytes, or it is refused.
func TestEachByte(t *testing.T) {
	known := 0
	for _, p := range samples() {
		s := want(p)
		for i := range len(s) {
			if i >= 60 && i < len(s)-20 {
				continue
			}
			for c := range 256 {
				b := []byte(s)
				b[i] = byte(c)
				if either(t, string(b)) {
					known++
				}
			}
		}
	}
	if known == 0 {
		t.Error("none is known")
	}
}

// P17.2: what is cut, and what has more.
func TestCutAndMore(t *testing.T) {
	for _, p := range samples() {
		s := want(p)
		for n := range len(s) {
			refused(t, s[:n])
			either(t, s[:n]+s[n+1:])
			either(t, s[n+1:])
		}
		for c := range 256 {
			refused(t, s+string([]byte{byte(c)}))
		}
		refused(t, s+s)
		refused(t, s+strings.Repeat("\x00", 1000))
		refused(t, "\x00"+s)
	}
}

// P17.2: each number, each count and each text's length with more bytes than it needs.
func TestLongNumbers(t *testing.T) {
	for _, p := range samples() {
		l := partsOf(p)
		for i, x := range l {
			n, s := x.n, ""
			if x.text {
				n, s = len(x.s), x.s
			}
			short := bytesOf(n)
			for more := 1; more <= 10; more++ {
				b := []byte(short)
				b[len(b)-1] |= 0x80
				long := string(b) + strings.Repeat("\x80", more-1) + "\x00"
				refused(t, joined(l[:i])+long+s+joined(l[i+1:]))
			}
		}
	}
}

// P17.2: texts, counts and sizes that claim more than there is.
func TestClaims(t *testing.T) {
	big := bytesOf(top - 1)
	for _, p := range samples() {
		l := partsOf(p)
		for i, x := range l {
			if !x.text {
				continue
			}
			for _, n := range []int{len(x.s) + 1, 127 + len(x.s), 1 << 31, 1 << 32, top - 1} {
				refused(t, joined(l[:i])+bytesOf(n)+x.s)
				refused(t, joined(l[:i])+bytesOf(n)+x.s+joined(l[i+1:]))
			}
		}
	}
	long := strings.Repeat("\x00", 1<<20)
	for _, s := range []string{big, big + big, big + big + "\x00", big + big + "\x01\x00", big + big + "\x00" + big, "\x01\x01\x00" + big, "\x01\x01\x01" + big, "\x28\x28\x00" + big, "\x28\x28\x01" + big, "\x01" + big + "\x01\x00", "\x01" + big + "\x00\x01\x00", "\x28\x28\x01\x00", "\x28\x28\x00\x28"} {
		refused(t, s)
		refused(t, s+long)
		refused(t, s+strings.Repeat("\x80", 1<<20))
		refused(t, s+strings.Repeat("\xff", 1<<20))
		refused(t, s+strings.Repeat("\x01", 1<<20))
	}
}

// P17.2: a title, or a mark, of very many bytes.
func TestLongTexts(t *testing.T) {
	p := single(api.Cell{Rune: 'a', Attr: plain})
	for _, s := range []string{strings.Repeat("x", 1<<22), strings.Repeat("\u0300", 1<<21), strings.Repeat("\xff", 1<<22)} {
		p.Title = s
		wrong(t, p)
		p.Title = "t"
		p.Cells[0].Comb = s
		wrong(t, p)
		p.Cells[0].Comb = ""
	}
}

// P17.3: of two patches that differ in one part the bytes do, too.
func TestApart(t *testing.T) {
	seen := map[string]api.Patch{}
	for _, p := range append(samples(), some(3, 2, 2), some(4, 2, 2), some(3, 3, 2), whole(3, 3)) {
		s, _ := pack.Patch(p)
		if x, ok := seen[s]; ok && !same(x, p) {
			t.Errorf("%x: %+v and %+v", s, x, p)
		}
		seen[s] = p
	}
}

// R2: what is handed in stays, and what Take tells is nobody else's, its spare room too.
func TestOwnMemory(t *testing.T) {
	for _, p := range samples() {
		at, cells := slices.Clone(p.At), slices.Clone(p.Cells)
		s, _ := pack.Patch(p)
		if !slices.Equal(p.At, at) || !slices.Equal(p.Cells, cells) {
			t.Fatalf("it is now %+v", p)
		}
		x, _ := pack.Take(s)
		y, _ := pack.Take(s)
		for i := range x.At[:cap(x.At)] {
			x.At[:cap(x.At)][i] = -1
		}
		for i := range x.Cells[:cap(x.Cells)] {
			x.Cells[:cap(x.Cells)][i] = api.Cell{Rune: -1, Comb: "!"}
		}
		z, e := pack.Take(s)
		if !same(y, p) || !same(z, p) || e != api.OK {
			t.Errorf("%+v\n%+v\nnot %+v", y, z, p)
		}
	}
}
