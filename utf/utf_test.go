package utf_test

import (
	"slices"
	"strings"
	"testing"

	"beacon/api"
	"beacon/utf"
)

const bad = 0xfffd

// edges are bytes at both sides of each bound that UTF-8 has.
const edges = "\x00a\x7f\x80\x8f\x90\x9f\xa0\xbf\xc0\xc1\xc2\xdf\xe0\xe1\xec\xed\xee\xef\xf0\xf1\xf3\xf4\xf5\xff"

// notParts are texts that no byte may follow as a part.
var notParts = []string{
	"a", "\x7f", "\x80", "\xbf", "\xc0", "\xc1", "\xf5", "\xff", "é", "世", "\U0010ffff", "\ufffd",
	"\xc2\x7f", "\xc2\xc0", "\xc2\xc2", "a\xc2", "é\xc2", "\xe0\x80", "\xe0\x9f", "\xe0\xc0", "\xed\xa0", "\xed\xbf",
	"\xf0\x80", "\xf0\x8f", "\xf4\x90", "\xf4\xbf", "\xe2\x82\x7f", "\xe2\x82\xc0", "\xf0\x90\x7f", "\xf0\x90\xc0",
	"\xf0\x90\x80\x7f", "\xf0\x9f\x98\x80\xf0", strings.Repeat("\xf0", 1000), strings.Repeat("a", 1000),
}

// shared tells the runes that have bytes, and all begins of these bytes that are not whole.
func shared() (whole map[string]int, parts map[string]struct{}) {
	whole, parts = map[string]int{}, map[string]struct{}{}
	for r := range 0x110000 {
		if 0xd800 <= r && r <= 0xdfff {
			continue
		}
		s := string(rune(r))
		whole[s] = r
		for n := 1; n < len(s); n++ {
			parts[s[:n]] = struct{}{}
		}
	}
	return whole, parts
}

var wholes, parts = shared()

// wantNext is P1.1 by its words.
func wantNext(part string, b byte) (l []int, left string) {
	s := part + string([]byte{b})
	if r, ok := wholes[s]; ok {
		return []int{r}, ""
	}
	if _, ok := parts[s]; ok {
		return nil, s
	}
	if part == "" {
		return []int{bad}, ""
	}
	l, left = wantNext("", b)
	return append([]int{bad}, l...), left
}

func wantAll(part string, s string) (l []int, left string) {
	left = part
	for i := range len(s) {
		var more []int
		more, left = wantNext(left, s[i])
		l = append(l, more...)
	}
	return l, left
}

// texts calls f with each text of n bytes out of from.
func texts(from string, n int, f func(string)) {
	if n == 0 {
		f("")
		return
	}
	for i := range len(from) {
		texts(from, n-1, func(s string) { f(from[i:i+1] + s) })
	}
}

func checkAll(t *testing.T, part string, s string) {
	t.Helper()
	l, left, e := utf.All(part, s)
	want, rest := wantAll(part, s)
	if !slices.Equal(l, want) || left != rest || e != api.OK {
		t.Fatalf("All(%x, %x): %x, %x, %v; want %x, %x", part, s, l, left, e, want, rest)
	}
}

// P1.1: the begins of runes, and nothing else, are parts.
func TestPart(t *testing.T) {
	for s := range parts {
		if !utf.Part(s) {
			t.Fatalf("%x is a part", s)
		}
	}
	all := ""
	for b := range 256 {
		all += string([]byte{byte(b)})
	}
	check := func(s string) {
		if _, ok := parts[s]; utf.Part(s) != ok {
			t.Fatalf("Part(%x): %v", s, !ok)
		}
	}
	check("")
	texts(all, 1, check)
	texts(all, 2, check)
	texts(edges, 3, check)
	texts(edges, 4, check)
	for _, s := range notParts {
		check(s)
	}
}

// P1.1: each byte behind each part, and behind none.
func TestNext(t *testing.T) {
	check := func(part string, b byte) {
		l, left, e := utf.Next(part, b)
		want, rest := wantNext(part, b)
		if !slices.Equal(l, want) || left != rest || e != api.OK {
			t.Fatalf("Next(%x, %x): %x, %x, %v; want %x, %x", part, b, l, left, e, want, rest)
		}
	}
	for b := range 256 {
		check("", byte(b))
		for s := range parts {
			if len(s) < 3 {
				check(s, byte(b))
			}
		}
	}
	// Of the parts of three bytes there are too many for all bytes.
	for s := range parts {
		for i := range len(edges) {
			check(s, edges[i])
		}
	}
}

// P1.1: the words of the promise, one by one.
func TestNextWords(t *testing.T) {
	for _, c := range []struct {
		part string
		b    byte
		want []int
		left string
	}{
		{"", 'a', []int{'a'}, ""},
		{"", 0, []int{0}, ""},
		{"", 0x7f, []int{0x7f}, ""},
		{"", 0x80, []int{bad}, ""},
		{"", 0xc1, []int{bad}, ""},
		{"", 0xf5, []int{bad}, ""},
		{"", 0xc2, nil, "\xc2"},
		{"\xc2", 0x80, []int{0x80}, ""},
		{"\xdf", 0xbf, []int{0x7ff}, ""},
		{"\xe0", 0xa0, nil, "\xe0\xa0"},
		{"\xe0", 0x9f, []int{bad, bad}, ""},
		{"\xe0\xa0", 0x80, []int{0x800}, ""},
		{"\xed", 0x9f, nil, "\xed\x9f"},
		{"\xed", 0xa0, []int{bad, bad}, ""},
		{"\xed\x9f", 0xbf, []int{0xd7ff}, ""},
		{"\xee\x80", 0x80, []int{0xe000}, ""},
		{"\xef\xbf", 0xbd, []int{bad}, ""},
		{"\xef\xbf", 0xbf, []int{0xffff}, ""},
		{"\xf0", 0x8f, []int{bad, bad}, ""},
		{"\xf0\x90\x80", 0x80, []int{0x10000}, ""},
		{"\xf4", 0x90, []int{bad, bad}, ""},
		{"\xf4\x8f\xbf", 0xbf, []int{0x10ffff}, ""},
		{"\xe2\x82", 'x', []int{bad, 'x'}, ""},
		{"\xe2\x82", 0xe2, []int{bad}, "\xe2"},
		{"\xe2\x82", 0xff, []int{bad, bad}, ""},
	} {
		l, left, e := utf.Next(c.part, c.b)
		if !slices.Equal(l, c.want) || left != c.left || e != api.OK {
			t.Errorf("Next(%x, %x): %x, %x, %v", c.part, c.b, l, left, e)
		}
	}
}

// P1.2: All is Next of each byte, behind each kind of part.
func TestAll(t *testing.T) {
	for n := range 4 {
		texts(edges, n, func(s string) { checkAll(t, "", s) })
	}
	// Behind what the first bytes of four leave, all that may follow is looked at, too.
	texts("a\x80\x8f\x90\x9f\xa0\xbf\xc2\xe0\xed\xf0\xf4\xff", 5, func(s string) { checkAll(t, "", s) })
	for _, part := range []string{"\xc2", "\xe0", "\xe2", "\xe2\x82", "\xed", "\xf0", "\xf0\x90", "\xf0\x90\x80", "\xf4", "\xf4\x8f", "\xf4\x8f\xbf"} {
		for n := range 4 {
			texts(edges, n, func(s string) { checkAll(t, part, s) })
		}
		checkAll(t, part, strings.Repeat("é\xff\xf0\x9f\ufffd", 100)+part)
	}
}

// P1.2: the example of the chapter, and texts whose runes are written out.
func TestAllWords(t *testing.T) {
	for _, c := range []struct {
		part string
		s    string
		want []int
		left string
	}{
		{"", "é", []int{233}, ""},
		{"", "", nil, ""},
		{"\xe2\x82", "", nil, "\xe2\x82"},
		{"\xe2\x82", "\xac", []int{0x20ac}, ""},
		{"\xe2", "€", []int{bad, 0x20ac}, ""},
		{"", "a\ufffdb", []int{'a', bad, 'b'}, ""},
		{"\xef", "\ufffd", []int{bad, bad}, ""},
		{"", "\xef\xbf", nil, "\xef\xbf"},
		{"", "\xef\xbfa", []int{bad, 'a'}, ""},
		{"", "\xc0\x80", []int{bad, bad}, ""},
		{"", "\xe0\x9f\xbf", []int{bad, bad, bad}, ""},
		{"", "\xed\xa0\x80", []int{bad, bad, bad}, ""},
		{"", "\xf4\x90\x80\x80", []int{bad, bad, bad, bad}, ""},
		{"", "\xf0\x9f\x98a\xf0\x9f\x98", []int{bad, 'a'}, "\xf0\x9f\x98"},
	} {
		l, left, e := utf.All(c.part, c.s)
		if !slices.Equal(l, c.want) || left != c.left || e != api.OK {
			t.Errorf("All(%x, %x): %x, %x, %v", c.part, c.s, l, left, e)
		}
	}
}

// P1.2: of a part one rune, of the empty text none.
func TestFlush(t *testing.T) {
	l, e := utf.Flush("")
	if len(l) != 0 || e != api.OK {
		t.Errorf("Flush of nothing: %x, %v", l, e)
	}
	for s := range parts {
		l, e := utf.Flush(s)
		if !slices.Equal(l, []int{bad}) || e != api.OK {
			t.Fatalf("Flush(%x): %x, %v", s, l, e)
		}
	}
}

// P1.1, P1.2: what is no part is refused, with nothing beside.
func TestErrForm(t *testing.T) {
	for _, s := range notParts {
		for b := range 256 {
			l, left, e := utf.Next(s, byte(b))
			if len(l) != 0 || left != "" || e != api.ErrForm {
				t.Errorf("Next(%x, %x): %x, %x, %v", s, b, l, left, e)
			}
		}
		for _, more := range []string{"", "a", "\x80", "é", "\xc2"} {
			l, left, e := utf.All(s, more)
			if len(l) != 0 || left != "" || e != api.ErrForm {
				t.Errorf("All(%x, %x): %x, %x, %v", s, more, l, left, e)
			}
		}
		l, e := utf.Flush(s)
		if len(l) != 0 || e != api.ErrForm {
			t.Errorf("Flush(%x): %x, %v", s, l, e)
		}
	}
}

// P1.3: of valid text All tells what range tells, and leaves nothing.
func TestValid(t *testing.T) {
	var all strings.Builder
	for r := range rune(0x110000) {
		if r < 0xd800 || r > 0xdfff {
			all.WriteRune(r)
		}
	}
	for _, s := range []string{"", "a", "\x00", "\u007f\u0080\u07ff\u0800\ud7ff\ue000\ufffd\uffff\U00010000\U0010ffff", "\ufffd\ufffd", all.String()} {
		var want []int
		for _, r := range s {
			want = append(want, int(r))
		}
		l, left, e := utf.All("", s)
		if !slices.Equal(l, want) || left != "" || e != api.OK {
			t.Errorf("%d bytes: %d runes, %x, %v", len(s), len(l), left, e)
		}
	}
}

// R2: what one call told is not changed by who writes to, or appends to, what another one told.
func TestOwnLists(t *testing.T) {
	tell := func() [][]int {
		a, _, _ := utf.Next("\xc2", 'a')
		b, _, _ := utf.All("\xc2", "ab")
		c, _ := utf.Flush("\xc2")
		return [][]int{a, b, c}
	}
	first, second := tell(), tell()
	for i := range first {
		kept := slices.Clone(second[i])
		for k := range first[i] {
			first[i][k] = -1
		}
		_ = append(first[i], -1, -1)
		if !slices.Equal(second[i], kept) || !slices.Equal(tell()[i], kept) {
			t.Errorf("%d: %v", i, second[i])
		}
	}
}
