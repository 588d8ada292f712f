package width_test

import (
	"math"
	"strings"
	"testing"

	"beacon/width"
)

// A span is numbers from low to high that have one width.
type span struct{ low, high, want int }

// spans are the ranges of P2.1, as the chapter lists them; all other numbers have width 1.
var spans = []span{
	{math.MinInt, 31, -1}, {127, 159, -1}, {0xd800, 0xdfff, -1}, {0x110000, math.MaxInt, -1},
	{0x300, 0x36f, 0}, {0x1ab0, 0x1aff, 0}, {0x200b, 0x200f, 0}, {0x20d0, 0x20ff, 0}, {0xfe00, 0xfe0f, 0}, {0xfe20, 0xfe2f, 0},
	{0x1100, 0x115f, 2}, {0x2e80, 0x303e, 2}, {0x3041, 0xa4cf, 2}, {0xac00, 0xd7a3, 2}, {0xf900, 0xfaff, 2}, {0xfe30, 0xfe6f, 2},
	{0xff00, 0xff60, 2}, {0xffe0, 0xffe6, 2}, {0x1f300, 0x1f64f, 2}, {0x1f900, 0x1f9ff, 2}, {0x20000, 0x3fffd, 2},
}

// wantOf is P2.1's Of by its words.
func wantOf(r int) int {
	for _, s := range spans {
		if s.low <= r && r <= s.high {
			return s.want
		}
	}
	return 1
}

// wantText is P2.1's Text by its words.
func wantText(s string) int {
	sum := 0
	for _, r := range s {
		sum += max(0, wantOf(int(r)))
	}
	return sum
}

// samples are valid runes at and beside the bounds of all ranges.
func samples() []rune {
	var l []rune
	for _, s := range spans {
		for _, r := range []int{s.low - 1, s.low, s.high, s.high + 1} {
			if 0 <= r && r <= 0x10ffff && (r < 0xd800 || r > 0xdfff) {
				l = append(l, rune(r))
			}
		}
	}
	return append(l, 0, '\n', 0x1b, 'a', 'é', 0x20ac, 0xfffd, 0x10ffff)
}

func checkOf(t *testing.T, r int, want int) {
	t.Helper()
	if n := width.Of(r); n != want {
		t.Errorf("Of(%#x): %d, not %d", r, n, want)
	}
}

func checkText(t *testing.T, s string, want int) {
	t.Helper()
	if n := width.Text(s); n != want {
		t.Errorf("Text(%+q): %d, not %d", s, n, want)
	}
}

// P2.1: all runes, and more numbers at both sides than any table could hold by mistake.
func TestOfAll(t *testing.T) {
	for r := -0x200000; r < 0x400000; r++ {
		if n, want := width.Of(r), wantOf(r); n != want {
			t.Fatalf("Of(%#x): %d, not %d", r, n, want)
		}
	}
}

// P2.1: each range's first and last number, and their neighbours, written out.
func TestOfEdges(t *testing.T) {
	for _, c := range []struct{ low, high, below, in, above int }{
		{0, 0x1f, -1, -1, 1},
		{0x20, 0x7e, -1, 1, -1},
		{0x7f, 0x9f, 1, -1, 1},
		{0x300, 0x36f, 1, 0, 1},
		{0x1100, 0x115f, 1, 2, 1},
		{0x1ab0, 0x1aff, 1, 0, 1},
		{0x200b, 0x200f, 1, 0, 1},
		{0x20d0, 0x20ff, 1, 0, 1},
		{0x2e80, 0x303e, 1, 2, 1},
		{0x3041, 0xa4cf, 1, 2, 1},
		{0xac00, 0xd7a3, 1, 2, 1},
		{0xd800, 0xdfff, 1, -1, 1},
		{0xf900, 0xfaff, 1, 2, 1},
		{0xfe00, 0xfe0f, 1, 0, 1},
		{0xfe20, 0xfe2f, 1, 0, 2},
		{0xfe30, 0xfe6f, 0, 2, 1},
		{0xff00, 0xff60, 1, 2, 1},
		{0xffe0, 0xffe6, 1, 2, 1},
		{0x1f300, 0x1f64f, 1, 2, 1},
		{0x1f900, 0x1f9ff, 1, 2, 1},
		{0x20000, 0x3fffd, 1, 2, 1},
		{0x3fffe, 0x10ffff, 2, 1, -1},
	} {
		checkOf(t, c.low-1, c.below)
		checkOf(t, c.low, c.in)
		checkOf(t, c.high, c.in)
		checkOf(t, c.high+1, c.above)
	}
}

// P2.1: the example of the chapter, and runes of each kind.
func TestOfWords(t *testing.T) {
	for r, want := range map[int]int{
		'a': 1, ' ': 1, '~': 1, 0: -1, '\n': -1, 0x1b: -1, 'é': 1, 0x20ac: 1, 0xfffd: 1, 0x0301: 0, 0x200d: 0, 0xfe0f: 0, '世': 2, 'ａ': 2, 0x1f600: 2,
	} {
		checkOf(t, r, want)
	}
}

// P2.1: what is no rune: numbers below 0, halves of surrogates, numbers above all runes.
func TestOfWrong(t *testing.T) {
	for r := 0xd800; r <= 0xdfff; r++ {
		checkOf(t, r, -1)
	}
	for _, r := range []int{-1, -'a', math.MinInt, math.MinInt + 1, math.MinInt32, math.MinInt32 - 1, 0x110000, math.MaxInt32, math.MaxInt32 + 1, math.MaxUint32, math.MaxInt} {
		checkOf(t, r, -1)
	}
	// A number whose lower bits are a rune's is not that rune.
	for _, r := range samples() {
		for _, far := range []int{1 << 21, 1 << 31, 1 << 32, 1 << 48, math.MinInt, -1 << 32} {
			checkOf(t, far+int(r), -1)
		}
	}
}

// P2.1: texts whose cells are written out, broken ones too.
func TestTextWords(t *testing.T) {
	for s, want := range map[string]int{
		"": 0, "a": 1, "abc": 3, "é": 1, "世界": 4, "ａ世!": 5, "\U0001f600": 2,
		"e\u0301": 1, "\u0301": 0, "\u0301\u200d\ufe0f": 0, "世\u0301界": 4,
		"\x00": 0, "\x1b\x7f\n\u0080\u009f": 0, "a\x00b\nc": 3, "\n世\u0301\x7fa": 3,
		"\ufffd": 1, "\xff": 1, "\xff\xfe": 2, "\x80a": 2, "\xc3": 1, "a\xe4\xb8": 3, "\xc0\x80": 2, "\xed\xa0\x80": 3,
		"\xf4\x90\x80\x80": 4, "\xf0\x9f\x98世": 5, "\U0010ffff": 1,
	} {
		checkText(t, s, want)
	}
}

// P2.1: the text of all runes at once, and a long one.
func TestTextSum(t *testing.T) {
	var all strings.Builder
	want := 0
	for r := range 0x110000 {
		if r < 0xd800 || r > 0xdfff {
			all.WriteRune(rune(r))
			want += max(0, wantOf(r))
		}
	}
	if n := width.Text(all.String()); n != want {
		t.Errorf("of all runes: %d, not %d", n, want)
	}
	if n := width.Text(strings.Repeat("a世\u0301\n\xff", 100000)); n != 400000 {
		t.Errorf("of a long text: %d, not 400000", n)
	}
}

// P2.1: each text of three bytes around the bounds that UTF-8 has.
func TestTextBroken(t *testing.T) {
	const edges = "\x00a\x7f\x80\x8f\x90\x9f\xa0\xbf\xc0\xc2\xcc\xdf\xe0\xe2\xe4\xed\xef\xf0\xf4\xf5\xff"
	for i := range len(edges) {
		for j := range len(edges) {
			for k := range len(edges) {
				s := edges[i:i+1] + edges[j:j+1] + edges[k:k+1]
				checkText(t, s, wantText(s))
			}
		}
	}
}

// P2.2: two valid texts, one behind the other, have the cells of both.
func TestTextOfTwo(t *testing.T) {
	var texts []string
	for _, r := range samples() {
		texts = append(texts, string(r), "a"+string(r), string(r)+"世\u0301")
	}
	texts = append(texts, "", "abc", "\u0301", strings.Repeat("世", 50))
	for _, a := range texts {
		for _, b := range texts {
			checkText(t, a+b, width.Text(a)+width.Text(b))
		}
	}
}

// P2.2 asks for valid texts: of broken ones the whole counts, as range tells it.
func TestTextOfBrokenTwo(t *testing.T) {
	checkText(t, "\xe4\xb8", 2)
	checkText(t, "\x96", 1)
	checkText(t, "\xe4\xb8"+"\x96", 2)
	checkText(t, "\xcc"+"\x81", 0)
}
