package vt_test

import (
	"slices"
	"strings"
	"testing"

	"beacon/api"
	"beacon/vt"
)

const bad = 0xfffd

func pr(r int) api.Event { return api.Event{Kind: api.EvPrint, Rune: r} }

func ctl(b int) api.Event { return api.Event{Kind: api.EvControl, Rune: b} }

func esc(b int, inter string) api.Event {
	return api.Event{Kind: api.EvEscape, Rune: b, Inter: inter}
}

func csi(b int, inter string, params ...int) api.Event {
	return api.Event{Kind: api.EvCsi, Rune: b, Inter: inter, Params: params}
}

func osc(s string) api.Event { return api.Event{Kind: api.EvOsc, Text: s} }

func in(state int) api.Parse { return api.Parse{State: state} }

func ground(part string) api.Parse { return api.Parse{Part: part} }

func inter(s string) api.Parse { return api.Parse{State: api.StInter, Inter: s} }

func inCsi(inter string, params ...int) api.Parse {
	return api.Parse{State: api.StCsi, Inter: inter, Params: params}
}

func inOsc(s string) api.Parse { return api.Parse{State: api.StOsc, Text: s} }

func inOscEsc(s string) api.Parse { return api.Parse{State: api.StOscEsc, Text: s} }

// numbers tells n numbers: -1, 0, 1 and on.
func numbers(n int) []int {
	l := make([]int, n)
	for i := range l {
		l[i] = i - 1
	}
	return l
}

func sameEvent(a, b api.Event) bool {
	return a.Kind == b.Kind && a.Rune == b.Rune && slices.Equal(a.Params, b.Params) && a.Inter == b.Inter && a.Text == b.Text
}

func sameEvents(a, b []api.Event) bool { return slices.EqualFunc(a, b, sameEvent) }

func sameParse(a, b api.Parse) bool {
	return a.State == b.State && a.Part == b.Part && slices.Equal(a.Params, b.Params) && a.Inter == b.Inter && a.Text == b.Text
}

// checkFeed feeds s whole and cut at each place.
func checkFeed(t *testing.T, from api.Parse, s string, want []api.Event, to api.Parse) {
	t.Helper()
	l, x, e := vt.Feed(from, s)
	if !sameEvents(l, want) || !sameParse(x, to) || e != api.OK {
		t.Errorf("Feed(%+v, %q): %+v, %+v, %v; want %+v, %+v", from, s, l, x, e, want, to)
	}
	for cut := range len(s) + 1 {
		a, mid, e := vt.Feed(from, s[:cut])
		b, x, f := vt.Feed(mid, s[cut:])
		if !sameEvents(slices.Concat(a, b), want) || !sameParse(x, to) || e != api.OK || f != api.OK || vt.Check(mid) != api.OK {
			t.Errorf("Feed(%+v, %q), cut at %d: %+v, %+v, %+v", from, s, cut, a, b, x)
		}
	}
}

// A span is what bytes from low to high do. The byte itself is meant by -1 as an event's Rune, and by "\xff" at the end of the state's Part, Inter or Text.
type span struct {
	low, high int
	events    []api.Event
	to        api.Parse
}

// own puts b where the byte itself is meant.
func own(s string, b int) string {
	if head, ok := strings.CutSuffix(s, "\xff"); ok {
		return head + string([]byte{byte(b)})
	}
	return s
}

func (s span) of(b int) ([]api.Event, api.Parse) {
	var l []api.Event
	for _, v := range s.events {
		if v.Rune == -1 {
			v.Rune = b
		}
		l = append(l, v)
	}
	p := s.to
	p.Part, p.Inter, p.Text = own(p.Part, b), own(p.Inter, b), own(p.Text, b)
	return l, p
}

func told(l ...api.Event) []api.Event { return l }

// controls are the spans below 0x20 where they are controls, and the state stays; of 0x18, 0x1a and 0x1b as everywhere.
func controls(stay api.Parse, ahead ...api.Event) []span {
	keep := slices.Concat(ahead, told(ctl(-1)))
	return []span{
		{0x00, 0x17, keep, stay}, {0x18, 0x18, keep, ground("")}, {0x19, 0x19, keep, stay}, {0x1a, 0x1a, keep, ground("")},
		{0x1b, 0x1b, ahead, in(api.StEscape)}, {0x1c, 0x1f, keep, stay},
	}
}

// escaped are the spans of StEscape.
func escaped() []span {
	return append(controls(in(api.StEscape)), []span{
		{0x20, 0x2f, nil, inter("\xff")}, {0x30, 0x4f, told(esc(-1, "")), ground("")}, {'P', 'P', nil, in(api.StString)},
		{'Q', 'W', told(esc(-1, "")), ground("")}, {'X', 'X', nil, in(api.StString)}, {'Y', 'Z', told(esc(-1, "")), ground("")},
		{'[', '[', nil, in(api.StCsi)}, {'\\', '\\', told(esc(-1, "")), ground("")}, {']', ']', nil, in(api.StOsc)},
		{'^', '_', nil, in(api.StString)}, {'`', '~', told(esc(-1, "")), ground("")}, {0x7f, 0x7f, nil, in(api.StEscape)}, {0x80, 0xff, nil, ground("")},
	}...)
}

// anew are the spans of StEscape, but that of the backslash.
func anew(backslash span) []span {
	l := escaped()
	for i, s := range l {
		if s.low == '\\' {
			l[i] = backslash
		}
	}
	return l
}

// digits are the spans of the ten digits that come behind params, of which the last one is low ahead of them.
func digits(inter string, params []int, low int) []span {
	var l []span
	for d := range 10 {
		l = append(l, span{'0' + d, '0' + d, nil, inCsi(inter, append(slices.Clone(params), min(low*10+d, api.MaxValue))...)})
	}
	return l
}

// csiEnd are the spans of StCsi from 0x40 on.
func csiEnd(p api.Parse) []span {
	return []span{{0x40, 0x7e, told(csi(-1, p.Inter, p.Params...)), ground("")}, {0x7f, 0x7f, nil, p}, {0x80, 0xff, nil, ground("")}}
}

// osced are the spans of StOsc, where what is seen leads to to.
func osced(p, to api.Parse) []span {
	return []span{
		{0x00, 0x06, nil, p}, {0x07, 0x07, told(osc(p.Text)), ground("")}, {0x08, 0x17, nil, p}, {0x18, 0x18, told(ctl(-1)), ground("")},
		{0x19, 0x19, nil, p}, {0x1a, 0x1a, told(ctl(-1)), ground("")}, {0x1b, 0x1b, nil, inOscEsc(p.Text)}, {0x1c, 0x1f, nil, p}, {0x20, 0xff, nil, to},
	}
}

// A table is what all bytes do in a state.
type table struct {
	from  api.Parse
	spans []span
}

func groundTables() []table {
	broken := append(controls(ground(""), pr(bad)), []span{
		{0x20, 0x7e, told(pr(bad), pr(-1)), ground("")}, {0x7f, 0x7f, told(pr(bad)), ground("")},
		{0xc0, 0xc1, told(pr(bad), pr(bad)), ground("")}, {0xc2, 0xf4, told(pr(bad)), ground("\xff")}, {0xf5, 0xff, told(pr(bad), pr(bad)), ground("")},
	}...)
	var euro []span
	for b := 0x80; b <= 0xbf; b++ {
		euro = append(euro, span{b, b, told(pr(0x2080 + b - 0x80)), ground("")})
	}
	return []table{
		{ground(""), append(controls(ground("")), []span{
			{0x20, 0x7e, told(pr(-1)), ground("")}, {0x7f, 0x7f, nil, ground("")},
			{0x80, 0xc1, told(pr(bad)), ground("")}, {0xc2, 0xf4, nil, ground("\xff")}, {0xf5, 0xff, told(pr(bad)), ground("")},
		}...)},
		{ground("\xc2"), slices.Concat(broken, []span{{0x80, 0x9f, nil, ground("")}, {0xa0, 0xbf, told(pr(-1)), ground("")}})},
		{ground("\xe2\x82"), slices.Concat(broken, euro)},
		{ground("\xf0\x9f"), slices.Concat(broken, []span{{0x80, 0xbf, nil, ground("\xf0\x9f\xff")}})},
	}
}

func escapeTables() []table {
	l := []table{{in(api.StEscape), escaped()}}
	for _, s := range []string{"(", " /", "()#"} {
		more := inter(s + "\xff")
		if len(s) == 3 {
			more = inter(s)
		}
		l = append(l, table{inter(s), append(controls(inter(s)), []span{
			{0x20, 0x2f, nil, more}, {0x30, 0x7e, told(esc(-1, s)), ground("")}, {0x7f, 0x7f, nil, inter(s)}, {0x80, 0xff, nil, ground("")},
		}...)})
	}
	return l
}

func csiTables() []table {
	skip := in(api.StSkip)
	with := func(p api.Parse, l ...[]span) table {
		return table{p, slices.Concat(controls(p), csiEnd(p), slices.Concat(l...))}
	}
	between := func(s string, params ...int) []span {
		return []span{{0x20, 0x2f, nil, inCsi(s+"\xff", params...)}}
	}
	return []table{
		with(inCsi(""), between(""), digits("", nil, 0), []span{{':', ';', nil, inCsi("", -1, -1)}, {'<', '?', nil, inCsi("\xff")}}),
		with(inCsi("", 12), between("", 12), digits("", nil, 12), []span{{':', ';', nil, inCsi("", 12, -1)}, {'<', '?', nil, skip}}),
		with(inCsi("", 5, -1), between("", 5, -1), digits("", []int{5}, 0), []span{{':', ';', nil, inCsi("", 5, -1, -1)}, {'<', '?', nil, skip}}),
		with(inCsi("", 0, 999), between("", 0, 999), digits("", []int{0}, 999), []span{{':', ';', nil, inCsi("", 0, 999, -1)}, {'<', '?', nil, skip}}),
		with(inCsi("", 1000), between("", 1000), digits("", nil, 1000), []span{{':', ';', nil, inCsi("", 1000, -1)}, {'<', '?', nil, skip}}),
		with(inCsi("?"), between("?"), digits("?", nil, 0), []span{{':', ';', nil, inCsi("?", -1, -1)}, {'<', '?', nil, skip}}),
		with(inCsi(">", 9999), between(">", 9999), digits(">", nil, 9999), []span{{':', ';', nil, inCsi(">", 9999, -1)}, {'<', '?', nil, skip}}),
		with(inCsi("", numbers(15)...), between("", numbers(15)...), digits("", numbers(14), 13), []span{{':', ';', nil, inCsi("", append(numbers(15), -1)...)}, {'<', '?', nil, skip}}),
		with(inCsi("", numbers(16)...), between("", numbers(16)...), digits("", numbers(15), 14), []span{{':', '?', nil, skip}}),
		with(inCsi(" "), between(" "), []span{{'0', '?', nil, skip}}),
		with(inCsi("?/", 7), between("?/", 7), []span{{'0', '?', nil, skip}}),
		with(inCsi("?!/", 7), []span{{0x20, '?', nil, skip}}),
		with(inCsi(" !/", -1, 1), []span{{0x20, '?', nil, skip}}),
	}
}

func textTables() []table {
	long := strings.Repeat("x", api.MaxString)
	str := in(api.StString)
	return []table{
		{in(api.StSkip), append(controls(in(api.StSkip)), []span{
			{0x20, 0x3f, nil, in(api.StSkip)}, {0x40, 0x7e, nil, ground("")}, {0x7f, 0x7f, nil, in(api.StSkip)}, {0x80, 0xff, nil, ground("")},
		}...)},
		{inOsc(""), osced(inOsc(""), inOsc("\xff"))},
		{inOsc("0;é"), osced(inOsc("0;é"), inOsc("0;é\xff"))},
		{inOsc(long[1:]), osced(inOsc(long[1:]), inOsc(long[1:]+"\xff"))},
		{inOsc(long), osced(inOsc(long), inOsc(long))},
		{inOscEsc(""), anew(span{'\\', '\\', told(osc("")), ground("")})},
		{inOscEsc("2;a"), anew(span{'\\', '\\', told(osc("2;a")), ground("")})},
		{str, []span{
			{0x00, 0x17, nil, str}, {0x18, 0x18, told(ctl(-1)), ground("")}, {0x19, 0x19, nil, str}, {0x1a, 0x1a, told(ctl(-1)), ground("")},
			{0x1b, 0x1b, nil, in(api.StStringEsc)}, {0x1c, 0xff, nil, str},
		}},
		{in(api.StStringEsc), anew(span{'\\', '\\', nil, ground("")})},
	}
}

func tables() []table {
	return slices.Concat(groundTables(), escapeTables(), csiTables(), textTables())
}

// P3.1: each byte in each state, by the chapter's words.
func TestEachByte(t *testing.T) {
	for _, c := range tables() {
		var seen [256]int
		for _, s := range c.spans {
			for b := s.low; b <= s.high; b++ {
				seen[b]++
				want, to := s.of(b)
				checkFeed(t, c.from, string([]byte{byte(b)}), want, to)
			}
		}
		for b, n := range seen {
			if n != 1 {
				t.Fatalf("%+v: the test has byte %#x %d times", c.from, b, n)
			}
		}
	}
}

// P3.1: texts of more than one byte, from the ground.
func TestFeedWords(t *testing.T) {
	for _, c := range []struct {
		s    string
		want []api.Event
		to   api.Parse
	}{
		{"\x1b[1;2H", told(csi('H', "", 1, 2)), ground("")},
		{"", nil, ground("")},
		{"aé世\U0001f600", told(pr('a'), pr(0xe9), pr(0x4e16), pr(0x1f600)), ground("")},
		{"\u0080\u009b1A\u009f\u00a0", told(pr('1'), pr('A'), pr(0xa0)), ground("")},
		{"\xe2\x82\x18\xe2\x82\x1a\xe2\x82\r", told(pr(bad), ctl(0x18), pr(bad), ctl(0x1a), pr(bad), ctl('\r')), ground("")},
		{"\xf0\x9f\x98\x1b[m", told(pr(bad), csi('m', "")), ground("")},
		{"\xed\xa0\x80\ufffd", told(pr(bad), pr(bad), pr(bad), pr(bad)), ground("")},
		{"\x1b\x1b\x1b", nil, in(api.StEscape)},
		{"\x1b()*+B", told(esc('B', "()*")), ground("")},
		{"\x1b(\n\x7f)\x1b[", told(ctl('\n')), inCsi("")},
		{"\x1b[\n?25\x7fh", told(ctl('\n'), csi('h', "?", 25)), ground("")},
		{"\x1b[0000000000009A", told(csi('A', "", 9)), ground("")},
		{"\x1b[9999;10000;99990;" + strings.Repeat("9", 100) + "A", told(csi('A', "", 9999, 9999, 9999, 9999)), ground("")},
		{"\x1b[38:2::1;4m", told(csi('m', "", 38, 2, -1, 1, 4)), ground("")},
		{"\x1b[;;5m", told(csi('m', "", -1, -1, 5)), ground("")},
		{"\x1b[;m\x1b[:m", told(csi('m', "", -1, -1), csi('m', "", -1, -1)), ground("")},
		{"\x1b[?1;2$p", told(csi('p', "?$", 1, 2)), ground("")},
		{"\x1b[1;2\x1b7\x1b[A", told(esc('7', ""), csi('A', "")), ground("")},
		{"\x1b[1;2\x18A\x1b[3\x1aB", told(ctl(0x18), pr('A'), ctl(0x1a), pr('B')), ground("")},
		{"\x1b[" + strings.Repeat("1;", 15) + "1A", told(csi('A', "", slices.Repeat([]int{1}, 16)...)), ground("")},
		{"\x1b[" + strings.Repeat("1;", 16) + "1AB", told(pr('B')), ground("")},
		{"\x1b[1<2;3\nAB", told(ctl('\n'), pr('B')), ground("")},
		{"\x1b[ 0\x1b[1A", told(csi('A', "", 1)), ground("")},
		{"\x1b[1?\x18A", told(ctl(0x18), pr('A')), ground("")},
		{"\x1b]0;a\x07\x1b]2;b\x1b\\c", told(osc("0;a"), osc("2;b"), pr('c')), ground("")},
		{"\x1b]0;\x00\x01\x1fa\x7f\x80\x07", told(osc("0;a\x7f\x80")), ground("")},
		{"\x1b]a\x1b]b\x07", told(osc("b")), ground("")},
		{"\x1b]a\x1b\x18b", told(ctl(0x18), pr('b')), ground("")},
		{"\x1b]a\x1bPb\x1b\\c", told(pr('c')), ground("")},
		{"\x1b]a\x1b\x07\x7fD", told(ctl(7), esc('D', "")), ground("")},
		{"\x1b]" + strings.Repeat("x", 63) + "é\x07", told(osc(strings.Repeat("x", 63) + "\xc3")), ground("")},
		{"\x1b]" + strings.Repeat("x", 1000) + "\x1b\\", told(osc(strings.Repeat("x", 64))), ground("")},
		{"\x1bP\x07\n\xff[1A\x1b\\a", told(pr('a')), ground("")},
		{"\x1b_a\x1b[1A", told(csi('A', "", 1)), ground("")},
		{"\x1b^a\x1b\x1b\\a", told(esc('\\', ""), pr('a')), ground("")},
		{"\x1bXa\x1b\nM", told(ctl('\n'), esc('M', "")), ground("")},
	} {
		checkFeed(t, ground(""), c.s, c.want, c.to)
	}
}

// may are states that may be, many of them at an edge.
func may() []api.Parse {
	l := []api.Parse{
		ground("\xf4"), ground("\xf0\x90\x80"), inter(" "), inter("///"), inCsi("<"), inCsi("?"), inCsi(" "), inCsi("/"), inCsi("= /"),
		inCsi("", -1), inCsi("", 0, 9999), inCsi("? ", slices.Repeat([]int{api.MaxValue}, api.MaxParams)...),
		inOsc(" "), inOsc("\x7f\x80\xff"), inOscEsc(strings.Repeat("\xff", api.MaxString)), inOscEsc(strings.Repeat("世", 21)),
		{State: api.StCsi, Params: []int{}},
	}
	for _, c := range tables() {
		l = append(l, c.from)
	}
	return l
}

// mayNot are states that may not be.
func mayNot() []api.Parse {
	l := []api.Parse{
		in(-1), in(api.StStringEsc + 1), in(1 << 40), in(-1 << 63),
		ground("a"), ground("\x80"), ground("\xc1"), ground("\xc3\xa9"), ground("\xe2\x82\xac"), ground("\xe0\x80"), ground("\xc3\xc3"), ground(strings.Repeat("\xc3", 5000)),
		inter(""), inter("\x1f"), inter("0"), inter("<"), inter("?"), inter("? "), inter("    "), inter(" \x80"), inter("\xc2\xa0"), inter("(\x00"),
		inCsi("\x1f"), inCsi("0"), inCsi(":"), inCsi(";"), inCsi("@"), inCsi("??"), inCsi(" ?"), inCsi("/<"), inCsi("?   "), inCsi("    "), inCsi("\x80"), inCsi("?\xff"), inCsi("\uff1f"),
		inCsi("", -2), inCsi("", api.MaxValue+1), inCsi("", 1, 2, 1<<40), inCsi("", -1<<63), inCsi("", slices.Repeat([]int{1}, api.MaxParams+1)...),
		inOsc("\x1f"), inOsc("a\x00"), inOsc("a\x1bb"), inOsc("\x07"), inOscEsc("\n"), inOscEsc("世\x1f"),
		inOsc(strings.Repeat("x", api.MaxString+1)), inOscEsc(strings.Repeat("x", api.MaxString+1)), inOsc(strings.Repeat("é", 33)), inOsc(strings.Repeat("x", 5000)),
	}
	for state := api.StGround; state <= api.StStringEsc; state++ {
		if state != api.StGround {
			l = append(l, api.Parse{State: state, Part: "\xc3", Inter: fill(state)})
		}
		if state != api.StCsi {
			l = append(l, api.Parse{State: state, Params: []int{-1}, Inter: fill(state)}, api.Parse{State: state, Params: []int{1}, Inter: fill(state)})
		}
		if state != api.StInter && state != api.StCsi {
			l = append(l, api.Parse{State: state, Inter: " "}, api.Parse{State: state, Inter: "?"})
		}
		if state != api.StOsc && state != api.StOscEsc {
			l = append(l, api.Parse{State: state, Text: "a", Inter: fill(state)})
		}
	}
	return l
}

// fill is what a state has to have as its Inter.
func fill(state int) string {
	if state == api.StInter {
		return "("
	}
	return ""
}

// P3.1: Check of what may be.
func TestCheck(t *testing.T) {
	for _, p := range may() {
		if e := vt.Check(p); e != api.OK {
			t.Errorf("Check(%+v): %v", p, e)
		}
	}
	for state := api.StGround; state <= api.StStringEsc; state++ {
		if e := vt.Check(api.Parse{State: state, Inter: fill(state)}); e != api.OK {
			t.Errorf("Check of %d: %v", state, e)
		}
	}
	for _, p := range mayNot() {
		if e := vt.Check(p); e != api.ErrForm {
			t.Errorf("Check(%+v): %v", p, e)
		}
	}
}

// P3.1: each byte at each place of an Inter, and in a Text.
func TestCheckBytes(t *testing.T) {
	check := func(p api.Parse, may bool) {
		t.Helper()
		want := api.ErrForm
		if may {
			want = api.OK
		}
		if e := vt.Check(p); e != want {
			t.Errorf("Check(%+v): %v", p, e)
		}
	}
	for b := range 256 {
		one := string([]byte{byte(b)})
		between, private := 0x20 <= b && b <= 0x2f, 0x3c <= b && b <= 0x3f
		for _, ahead := range []string{"", " ", "(#"} {
			check(inter(ahead+one), between)
		}
		check(inCsi(one), between || private)
		for _, ahead := range []string{"?", "? ", "/"} {
			check(inCsi(ahead+one), between)
		}
		check(inOsc("a"+one), b >= 0x20)
		check(inOscEsc(one+"a"), b >= 0x20)
	}
}

// P3.1: ErrForm ahead of ErrLimit, and nothing beside them.
func TestFeedErrors(t *testing.T) {
	long := strings.Repeat("a", api.MaxText+1)
	refused := func(p api.Parse, s string, want api.Errno) {
		t.Helper()
		l, x, e := vt.Feed(p, s)
		if len(l) != 0 || !sameParse(x, api.Parse{}) || e != want {
			t.Errorf("Feed(%+v, %d bytes): %+v, %+v, %v", p, len(s), l, x, e)
		}
	}
	for _, p := range mayNot() {
		for _, s := range []string{"", "a", "\x18", "\x1b[1A", long} {
			refused(p, s, api.ErrForm)
		}
	}
	for _, p := range may() {
		refused(p, long, api.ErrLimit)
		refused(p, strings.Repeat(long, 10), api.ErrLimit)
		if _, _, e := vt.Feed(p, long[1:]); e != api.OK {
			t.Errorf("Feed(%+v, %d bytes): %v", p, api.MaxText, e)
		}
	}
	l, x, e := vt.Feed(ground("\xc3"), long[1:])
	if want := append(told(pr(bad)), slices.Repeat(told(pr('a')), api.MaxText)...); !sameEvents(l, want) || !sameParse(x, ground("")) || e != api.OK {
		t.Errorf("%d events, %+v, %v", len(l), x, e)
	}
}

// texts calls f with each text of n bytes out of from.
func texts(from string, n int, f func(string)) {
	if n == 0 {
		f("")
		return
	}
	for i := range len(from) {
		texts(from, n-1, func(s string) { f(from[i:i+1] + s) })
	}
}

// inPieces feeds the bytes of s one by one.
func inPieces(t *testing.T, p api.Parse, s string) (l []api.Event, x api.Parse) {
	for i := range len(s) {
		more, next, e := vt.Feed(p, s[i:i+1])
		if e != api.OK || vt.Check(next) != api.OK {
			t.Fatalf("Feed(%+v, %q): %+v, %v", p, s[i:i+1], next, e)
		}
		l, p = append(l, more...), next
	}
	return l, p
}

// P3.2: from each state, short texts of bytes that do something each, whole and byte by byte.
func TestPieces(t *testing.T) {
	const each = "a\x07\n\x18\x1b\x7f (0;?[]P\\\xc3\xa9\xf0"
	check := func(p api.Parse, s string) {
		l, x, e := vt.Feed(p, s)
		want, to := inPieces(t, p, s)
		if !sameEvents(l, want) || !sameParse(x, to) || e != api.OK {
			t.Fatalf("Feed(%+v, %q): %+v, %+v; in pieces %+v, %+v", p, s, l, x, want, to)
		}
	}
	for _, p := range may() {
		for n := range 4 {
			texts(each, n, func(s string) { check(p, s) })
		}
	}
	texts(each, 4, func(s string) { check(ground(""), s) })
}

// P3.2: long texts of all sorts, in pieces of all lengths.
func TestLongPieces(t *testing.T) {
	some := "\x1b[1;22;333Hé\x1b]0;tit\x1b\\\x1b(0世\xf0\x9f\x1bP..\x1b\\\x1b[?1;9h\x1b[3?A\x1b]x\x07\x1b[;\n;5 q\u0085\xe2\x82\x1b\x1b7\x7f"
	s := strings.Repeat(some, api.MaxText/len(some))
	want, to, _ := vt.Feed(ground(""), s)
	for n := 1; n <= len(s); n += 1 + n/5 {
		var l []api.Event
		p := ground("")
		for piece := range slices.Chunk([]byte(s), n) {
			more, next, e := vt.Feed(p, string(piece))
			if e != api.OK {
				t.Fatal(e)
			}
			l, p = append(l, more...), next
		}
		if !sameEvents(l, want) || !sameParse(p, to) {
			t.Fatalf("pieces of %d: %d events, not %d; %+v", n, len(l), len(want), p)
		}
	}
}

// R2: the numbers that are handed in, and the room behind them, stay.
func TestNotChanged(t *testing.T) {
	for _, s := range []string{"", "5", ";", ";5", "5;6A", "A\x1b[7;8", "\x18\x1b[1"} {
		room := []int{1, 2, 33, 44}
		vt.Feed(inCsi("", room[:2]...), s)
		if !slices.Equal(room, []int{1, 2, 33, 44}) {
			t.Errorf("%q: %v", s, room)
		}
	}
}

// R2: whoever writes into one list that was told, or appends to it, changes no other.
func TestOwnMemory(t *testing.T) {
	const s = "A\x1b[7;8;9B\x1b[7;8;9C\x1b[10;11"
	given := inCsi("", 1, 2, 3)
	lists := func(l []api.Event, x api.Parse) [][]int {
		out := [][]int{given.Params, x.Params}
		for _, v := range l {
			out = append(out, v.Params)
		}
		return out
	}
	count := len(lists(nil, api.Parse{})) + 3
	for i := range count {
		l, x, _ := vt.Feed(given, s)
		told := lists(l, x)
		if len(told) != count {
			t.Fatalf("%+v", l)
		}
		var kept [][]int
		for _, m := range told {
			kept = append(kept, slices.Clone(m))
		}
		for k := range told[i] {
			told[i][k] = 77
		}
		for range 8 {
			told[i] = append(told[i], 77)
		}
		for k := range told {
			if k != i && !slices.Equal(told[k], kept[k]) {
				t.Errorf("%d changes %d: %v", i, k, told[k])
			}
		}
		given = inCsi("", 1, 2, 3)
	}
}

// R1, R2: a state that was told can be fed more than once, with the same answer, and stays as it is.
func TestFedAgain(t *testing.T) {
	_, mid, _ := vt.Feed(ground(""), "\x1b[1;2;3")
	kept := slices.Clone(mid.Params)
	a, x, _ := vt.Feed(mid, "4;5A\x1b[6")
	b, y, _ := vt.Feed(mid, "4;5A\x1b[6")
	if !sameEvents(a, b) || !sameParse(x, y) || !slices.Equal(mid.Params, kept) {
		t.Errorf("%+v, %+v, %+v", a, b, mid)
	}
	a[0].Params[0], x.Params[0] = 77, 77
	if !sameEvents(b, told(csi('A', "", 1, 2, 34, 5))) || !sameParse(y, inCsi("", 6)) {
		t.Errorf("%+v, %+v", b, y)
	}
}
