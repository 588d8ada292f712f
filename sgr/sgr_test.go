package sgr_test

import (
	"math"
	"slices"
	"testing"

	"beacon/api"
	"beacon/sgr"
)

const (
	mixed = 256 // the first colour of red, green and blue
	last  = 256 + 1<<24 - 1
)

func at(fg, bg, flags int) api.Attr { return api.Attr{Fg: fg, Bg: bg, Flags: flags} }

var plain = at(-1, -1, 0)

// begins are attributes that numbers are applied to.
var begins = []api.Attr{plain, at(3, 200, 255), at(last, mixed, api.FlagFaint|api.FlagReverse), at(-1, 0, 0xaa), at(255, -1, 0x55)}

// wrongs are attributes that may not be.
var wrongs = []api.Attr{
	at(-2, -1, 0), at(last+1, -1, 0), at(math.MinInt, -1, 0), at(math.MaxInt, -1, 0), at(1<<32, -1, 0), at(-1<<32, 0, 0),
	at(-1, -2, 0), at(-1, last+1, 0), at(-1, math.MinInt, 0), at(-1, math.MaxInt, 0), at(0, 1<<32, 0), at(0, -1<<32, 0),
	at(-1, -1, -1), at(-1, -1, 256), at(-1, -1, math.MinInt), at(-1, -1, math.MaxInt), at(0, 0, 1<<32), at(0, 0, 0x101),
	at(-2, -2, -1), at(last+1, last+1, 256),
}

// alone is what a number that stands by itself makes of a, as the chapter lists them.
func alone(a api.Attr, n int) api.Attr {
	switch n {
	case 0, -1:
		return plain
	case 1:
		a.Flags |= api.FlagBold
	case 2:
		a.Flags |= api.FlagFaint
	case 3:
		a.Flags |= api.FlagItalic
	case 4:
		a.Flags |= api.FlagUnder
	case 5:
		a.Flags |= api.FlagBlink
	case 7:
		a.Flags |= api.FlagReverse
	case 8:
		a.Flags |= api.FlagHidden
	case 9:
		a.Flags |= api.FlagStruck
	case 22:
		a.Flags &^= api.FlagBold | api.FlagFaint
	case 23:
		a.Flags &^= api.FlagItalic
	case 24:
		a.Flags &^= api.FlagUnder
	case 25:
		a.Flags &^= api.FlagBlink
	case 27:
		a.Flags &^= api.FlagReverse
	case 28:
		a.Flags &^= api.FlagHidden
	case 29:
		a.Flags &^= api.FlagStruck
	case 30, 31, 32, 33, 34, 35, 36, 37:
		a.Fg = n - 30
	case 39:
		a.Fg = -1
	case 40, 41, 42, 43, 44, 45, 46, 47:
		a.Bg = n - 40
	case 49:
		a.Bg = -1
	case 90, 91, 92, 93, 94, 95, 96, 97:
		a.Fg = n - 82
	case 100, 101, 102, 103, 104, 105, 106, 107:
		a.Bg = n - 92
	}
	return a
}

// wantApply is P4.1's Apply by its words, number by number.
func wantApply(a api.Attr, l []int) api.Attr {
	if len(l) == 0 {
		return plain
	}
	number := func(i int) int { return max(0, l[i]) }
	for i := 0; i < len(l); i++ {
		n := number(i)
		if n != 38 && n != 48 {
			a = alone(a, n)
			continue
		}
		left := len(l) - i - 1
		colour := -1
		if left >= 2 && number(i+1) == 5 {
			if number(i+2) < 256 {
				colour = number(i + 2)
			}
			i += 2
		} else if left >= 4 && number(i+1) == 2 {
			if number(i+2) < 256 && number(i+3) < 256 && number(i+4) < 256 {
				colour = mixed + 65536*number(i+2) + 256*number(i+3) + number(i+4)
			}
			i += 4
		} else {
			return a
		}
		if colour >= 0 && n == 38 {
			a.Fg = colour
		} else if colour >= 0 {
			a.Bg = colour
		}
	}
	return a
}

func checkApply(t *testing.T, a api.Attr, l []int, want api.Attr) {
	t.Helper()
	was := slices.Clone(l)
	x, e := sgr.Apply(a, l)
	if x != want || e != api.OK {
		t.Fatalf("Apply(%v, %v): %v, %v; want %v", a, was, x, e, want)
	}
	if !slices.Equal(l, was) {
		t.Fatalf("Apply(%v, %v) made %v of its numbers", a, was, l)
	}
}

func checkRefused(t *testing.T, a api.Attr, l []int) {
	t.Helper()
	if x, e := sgr.Apply(a, l); x != (api.Attr{}) || e != api.ErrForm {
		t.Errorf("Apply(%v, %v): %v, %v; want ErrForm", a, l, x, e)
	}
}

// lists calls f with each list of n numbers out of from.
func lists(from []int, n int, f func([]int)) {
	l := make([]int, n)
	var fill func(i int)
	fill = func(i int) {
		if i == n {
			f(l)
			return
		}
		for _, v := range from {
			l[i] = v
			fill(i + 1)
		}
	}
	fill(0)
}

// P4.1: colours and flags up to their edges, and beyond.
func TestCheck(t *testing.T) {
	for flags := range 256 {
		for _, fg := range []int{-1, 0, 255, mixed, last} {
			for _, bg := range []int{-1, 0, 255, mixed, last} {
				if e := sgr.Check(at(fg, bg, flags)); e != api.OK {
					t.Errorf("Check(%d, %d, %d): %v", fg, bg, flags, e)
				}
			}
		}
	}
	for _, a := range append(begins, api.Attr{}) {
		if e := sgr.Check(a); e != api.OK {
			t.Errorf("Check(%v): %v", a, e)
		}
	}
	for _, a := range wrongs {
		if e := sgr.Check(a); e != api.ErrForm {
			t.Errorf("Check(%v): %v; want ErrForm", a, e)
		}
	}
}

// P4.1: each number that may be, alone.
func TestApplyOne(t *testing.T) {
	for _, a := range begins {
		for n := -1; n <= api.MaxValue; n++ {
			want := a
			if n != 38 && n != 48 {
				want = alone(a, n)
			}
			checkApply(t, a, []int{n}, want)
		}
	}
}

// P4.1: the chapter's example, and lists whose answers are written out.
func TestApplyWords(t *testing.T) {
	all := at(3, 200, 255)
	for _, c := range []struct {
		a    api.Attr
		l    []int
		want api.Attr
	}{
		{plain, []int{1, 31}, at(1, -1, api.FlagBold)},
		{all, nil, plain}, {all, []int{}, plain}, {all, []int{0}, plain}, {all, []int{-1}, plain}, {all, []int{1, 0}, plain}, {all, []int{4, -1, 9}, at(-1, -1, api.FlagStruck)},
		{plain, []int{1, 2, 3, 4, 5, 7, 8, 9}, at(-1, -1, 255)}, {all, []int{22, 23, 24, 25, 27, 28, 29}, at(3, 200, 0)}, {all, []int{29, 39, 49}, at(-1, -1, 0x7f)},
		{all, []int{6, 10, 11, 20, 21, 26, 50, 89, 98, 99, 108, 9999}, all}, {plain, []int{6, 26, 21}, plain},
		{plain, []int{1, 1, 2}, at(-1, -1, 3)}, {plain, []int{22, 24}, plain}, {plain, []int{1, 22, 2}, at(-1, -1, api.FlagFaint)},
		{plain, []int{30, 107}, at(0, 15, 0)}, {plain, []int{37, 40}, at(7, 0, 0)}, {plain, []int{90, 100}, at(8, 8, 0)}, {plain, []int{97, 47}, at(15, 7, 0)}, {plain, []int{31, 92, 33}, at(3, -1, 0)},
		{plain, []int{38, 5, 0, 48, 5, 255}, at(0, 255, 0)}, {all, []int{38, 5, -1}, at(0, 200, 255)}, {all, []int{48, 5, -1, 22}, at(3, 0, 252)},
		{plain, []int{38, 2, 1, 2, 3}, at(256+65536+512+3, -1, 0)}, {plain, []int{48, 2, 255, 255, 255, 3}, at(-1, last, api.FlagItalic)}, {plain, []int{48, 2, -1, 0, -1}, at(-1, mixed, 0)},
		{plain, []int{38, 2, 255, 0, 0, 48, 2, 0, 0, 255}, at(256+255<<16, 256+255, 0)},
	} {
		checkApply(t, c.a, c.l, c.want)
	}
}

// P4.1: what belongs to 38 and 48 is passed over where it makes no colour, and asks for nothing by itself.
func TestApplyPassesOver(t *testing.T) {
	a := at(7, 8, api.FlagUnder)
	bold := at(7, 8, api.FlagUnder|api.FlagBold)
	for _, n := range []int{38, 48} {
		for _, far := range []int{256, 257, 9999} {
			checkApply(t, a, []int{n, 5, far, 1}, bold)
			checkApply(t, a, []int{n, 2, far, 3, 0, 1}, bold)
			checkApply(t, a, []int{n, 2, 0, far, 3, 1}, bold)
			checkApply(t, a, []int{n, 2, 3, 0, far, 1}, bold)
			checkApply(t, a, []int{n, 2, far, far, far, 1}, bold)
		}
		for _, few := range [][]int{{n}, {n, 5}, {n, 2}, {n, 2, 1}, {n, 2, 1, 3}, {n, 2, 300, 0}, {n, n}, {n, n, 5}} {
			checkApply(t, a, few, a)
			checkApply(t, a, slices.Concat([]int{1}, few), bold)
		}
		for neither := -1; neither <= api.MaxValue; neither++ {
			if neither != 5 && neither != 2 {
				checkApply(t, a, []int{1, n, neither, 0, 9, 31, 42, 3, 38, 5, 9}, bold)
			}
		}
	}
}

// P4.1: each number behind 38 5 and 48 5, and each of red, green and blue.
func TestApplyLong(t *testing.T) {
	for n := -1; n <= api.MaxValue; n++ {
		v, ok := max(0, n), n < 256
		for _, a := range begins {
			for i, c := range []struct {
				l      []int
				colour int
			}{
				{[]int{5, n}, v}, {[]int{2, n, 5, 7}, mixed + v*65536 + 5*256 + 7}, {[]int{2, 5, n, 7}, mixed + 5*65536 + v*256 + 7}, {[]int{2, 5, 7, n}, mixed + 5*65536 + 7*256 + v},
			} {
				front, back := a, a
				if ok {
					front.Fg, back.Bg = c.colour, c.colour
				}
				checkApply(t, a, append([]int{38}, c.l...), front)
				checkApply(t, a, append([]int{48}, c.l...), back)
				if ok && sgr.Check(front) != api.OK {
					t.Fatalf("%d: %v may not be", i, front)
				}
			}
		}
	}
}

// P4.1: short lists of all kinds of numbers, against its words.
func TestApplyLists(t *testing.T) {
	few := []int{-1, 0, 1, 2, 5, 22, 31, 38, 48, 49, 103, 255, 256}
	for n := range 6 {
		lists(few, n, func(l []int) { checkApply(t, begins[1], l, wantApply(begins[1], l)) })
	}
	for _, a := range begins {
		lists([]int{0, 2, 5, 38, 48}, 7, func(l []int) { checkApply(t, a, l, wantApply(a, l)) })
		every := make([]int, 112)
		for i := range every {
			every[i] = i - 1
		}
		lists(every, 2, func(l []int) { checkApply(t, a, l, wantApply(a, l)) })
	}
}

// P4.1: lists of up to 32 numbers, and one more.
func TestApplyCount(t *testing.T) {
	for n := range 33 {
		l := make([]int, n)
		for i := range l {
			l[i] = 31 + i%7
		}
		checkApply(t, begins[1], l, wantApply(begins[1], l))
	}
	full := append(slices.Repeat([]int{0}, 31), 1)
	checkApply(t, begins[1], full, at(-1, -1, api.FlagBold))
	checkApply(t, plain, slices.Repeat([]int{48, 5, 9, 3}, 8), at(-1, 9, api.FlagItalic))
	checkApply(t, plain, append(slices.Repeat([]int{1}, 30), 38, 5), at(-1, -1, api.FlagBold))
	for _, n := range []int{33, 34, 64, 100000} {
		checkRefused(t, plain, make([]int, n))
	}
}

// P4.1: attributes and numbers that may not be, also where nothing would come of them.
func TestApplyWrong(t *testing.T) {
	for _, a := range wrongs {
		for _, l := range [][]int{nil, {0}, {1}, {38}, {39, 49}, {-2}} {
			checkRefused(t, a, l)
		}
	}
	for _, a := range begins {
		for _, n := range []int{-2, -3, api.MaxValue + 1, math.MinInt, math.MaxInt, 1 << 32, -1 << 32} {
			checkRefused(t, a, []int{n})
			for i := range 32 {
				l := slices.Repeat([]int{0}, 32)
				l[i] = n
				checkRefused(t, a, l)
			}
			checkRefused(t, a, []int{38, n})
			checkRefused(t, a, []int{38, 5, n})
			checkRefused(t, a, []int{48, 2, 0, n, 0})
			checkRefused(t, a, []int{38, 1, n})
		}
	}
}

// wantColour are P4.2's numbers of a colour by its words; they begin with those of Fg, or of Bg.
func wantColour(c, dark, bright, long int) []int {
	switch {
	case c < 0:
		return nil
	case c < 8:
		return []int{dark + c}
	case c < 16:
		return []int{bright + c - 8}
	case c < 256:
		return []int{long, 5, c}
	}
	c -= 256
	return []int{long, 2, c / 65536, c / 256 % 256, c % 256}
}

func wantLine(a api.Attr) []int {
	l := []int{0}
	for i, n := range []int{1, 2, 3, 4, 5, 7, 8, 9} {
		if a.Flags>>i%2 == 1 {
			l = append(l, n)
		}
	}
	return slices.Concat(l, wantColour(a.Fg, 30, 90, 38), wantColour(a.Bg, 40, 100, 48))
}

// checkLine holds Line to its words, and P4.3: what it tells makes a of all attributes.
func checkLine(t *testing.T, a api.Attr) {
	t.Helper()
	l, e := sgr.Line(a)
	if want := wantLine(a); !slices.Equal(l, want) || e != api.OK {
		t.Fatalf("Line(%v): %v, %v; want %v", a, l, e, want)
	}
	for _, from := range begins {
		if x, e := sgr.Apply(from, l); x != a || e != api.OK {
			t.Fatalf("Apply(%v, %v): %v, %v; want %v", from, l, x, e, a)
		}
	}
}

// colours are all that have a number of their own, and mixed ones.
func colours() []int {
	var l []int
	for c := -1; c < mixed; c++ {
		l = append(l, c)
	}
	for _, r := range []int{0, 1, 127, 128, 255} {
		for _, g := range []int{0, 1, 127, 128, 255} {
			for _, b := range []int{0, 1, 127, 128, 255} {
				l = append(l, mixed+r*65536+g*256+b)
			}
		}
	}
	return l
}

// P4.2: attributes whose numbers are written out.
func TestLineWords(t *testing.T) {
	for _, c := range []struct {
		a api.Attr
		l []int
	}{
		{plain, []int{0}}, {at(1, -1, api.FlagBold), []int{0, 1, 31}}, {api.Attr{}, []int{0, 30, 40}},
		{at(0, 7, 0), []int{0, 30, 47}}, {at(7, 0, 0), []int{0, 37, 40}}, {at(8, 15, 0), []int{0, 90, 107}}, {at(15, 8, 0), []int{0, 97, 100}},
		{at(16, 255, 0), []int{0, 38, 5, 16, 48, 5, 255}}, {at(255, 16, 0), []int{0, 38, 5, 255, 48, 5, 16}}, {at(mixed, last, 0), []int{0, 38, 2, 0, 0, 0, 48, 2, 255, 255, 255}},
		{at(256+65536+512+3, -1, 0), []int{0, 38, 2, 1, 2, 3}}, {at(-1, 256+3*65536+512+1, 0), []int{0, 48, 2, 3, 2, 1}},
		{at(-1, -1, 255), []int{0, 1, 2, 3, 4, 5, 7, 8, 9}}, {at(-1, -1, api.FlagReverse|api.FlagBlink), []int{0, 5, 7}}, {at(-1, -1, api.FlagHidden), []int{0, 8}},
		{at(last, mixed, 255), []int{0, 1, 2, 3, 4, 5, 7, 8, 9, 38, 2, 255, 255, 255, 48, 2, 0, 0, 0}},
	} {
		if l, e := sgr.Line(c.a); !slices.Equal(l, c.l) || e != api.OK {
			t.Errorf("Line(%v): %v, %v; want %v", c.a, l, e, c.l)
		}
		checkLine(t, c.a)
	}
}

// P4.2, P4.3: all flags, and all kinds of colours.
func TestLineAll(t *testing.T) {
	some := []int{-1, 0, 7, 8, 15, 16, 255, mixed, mixed + 255, mixed + 256, mixed + 65535, mixed + 65536, last}
	for flags := range 256 {
		for _, fg := range some {
			for _, bg := range some {
				checkLine(t, at(fg, bg, flags))
			}
		}
	}
	for i, c := range colours() {
		for _, other := range some {
			checkLine(t, at(c, other, i%256))
			checkLine(t, at(other, c, i%256))
		}
	}
	for c := mixed; c <= last; c += 997 {
		checkLine(t, at(c, last+mixed-c, c%256))
	}
}

// P4.2: an attribute that may not be has no numbers.
func TestLineWrong(t *testing.T) {
	for _, a := range wrongs {
		if l, e := sgr.Line(a); len(l) != 0 || e != api.ErrForm {
			t.Errorf("Line(%v): %v, %v; want ErrForm", a, l, e)
		}
	}
}

// R2: who writes into an answer, or behind it, changes no other one; the same call tells the same.
func TestLineIsNew(t *testing.T) {
	for _, a := range append(begins, api.Attr{}) {
		first, _ := sgr.Line(a)
		second, _ := sgr.Line(a)
		for i := range first[:cap(first)] {
			first[:cap(first)][i] = -7
		}
		if !slices.Equal(second, wantLine(a)) {
			t.Errorf("Line(%v): %v, once another answer was written to", a, second)
		}
		checkLine(t, a)
	}
}

// R2: the spare room of a list that is handed in stays as it is.
func TestApplyKeepsRoom(t *testing.T) {
	room := []int{1, -1, 38, 5, -1, 77, 77}
	checkApply(t, begins[1], room[:0], plain)
	checkApply(t, begins[1], room[:5], at(0, -1, 0))
	checkApply(t, begins[1], room[:3], plain)
	if !slices.Equal(room, []int{1, -1, 38, 5, -1, 77, 77}) {
		t.Errorf("the list became %v", room)
	}
}
