package tabs_test

import (
	"math"
	"slices"
	"testing"

	"beacon/api"
	"beacon/tabs"
)

// of is so many columns with stops at at.
func of(n int, at ...int) []bool {
	l := make([]bool, n)
	for _, i := range at {
		l[i] = true
	}
	return l
}

// some are stops of all small sizes, each way to set them, and some of the greatest size.
func some() [][]bool {
	l := [][]bool{of(api.MaxSide), of(api.MaxSide, 0), of(api.MaxSide, api.MaxSide-1), of(api.MaxSide, 0, 7, 8, 9, 31, 39), slices.Repeat([]bool{true}, api.MaxSide)}
	for n := 1; n <= 7; n++ {
		for bits := range 1 << n {
			x := make([]bool, n)
			for i := range x {
				x[i] = bits>>i&1 == 1
			}
			l = append(l, x)
		}
	}
	return l
}

var (
	wrongCounts  = []int{0, -1, api.MaxSide + 1, math.MinInt, math.MaxInt, 1 << 32, 1<<32 + 1}
	wrongSteps   = []int{-1, api.MaxValue + 1, math.MinInt, math.MaxInt, 1 << 32, 1<<32 + 1}
	wrongPlaces  = []int{-1, 3, math.MinInt, math.MaxInt, 1 << 32, 1<<32 + 1}
	wrongStops   = [][]bool{nil, {}, make([]bool, api.MaxSide+1), make([]bool, 1000)}
	threeColumns = []bool{true, false, true}
)

// steps are how far Next and Back are asked to go over n columns.
func steps(n int) []int {
	l := []int{api.MaxValue - 1, api.MaxValue}
	for i := range n + 3 {
		l = append(l, i)
	}
	return l
}

// is holds an answer against what it should be, and to what may be.
func is(t *testing.T, got []bool, e api.Errno, want []bool) {
	t.Helper()
	if e != api.OK || !slices.Equal(got, want) || tabs.Check(got) != api.OK {
		t.Fatalf("%v, %v, not %v", got, e, want)
	}
}

// refused holds an answer against ErrForm.
func refused(t *testing.T, got []bool, e api.Errno) {
	t.Helper()
	if len(got) != 0 || e != api.ErrForm {
		t.Errorf("%v, %v", got, e)
	}
}

// went holds a place against what it should be.
func went(t *testing.T, got int, e api.Errno, want int) {
	t.Helper()
	if got != want || e != api.OK {
		t.Fatalf("%d, %v, not %d", got, e, want)
	}
}

// P7.1: what may be.
func TestCheck(t *testing.T) {
	for n := 1; n <= api.MaxSide; n++ {
		if tabs.Check(of(n)) != api.OK || tabs.Check(of(n, n-1, 0)) != api.OK {
			t.Errorf("%d", n)
		}
	}
	for _, l := range wrongStops {
		if e := tabs.Check(l); e != api.ErrForm {
			t.Errorf("%d: %v", len(l), e)
		}
	}
}

// P7.1: New, of all sizes that may be, and of some that may not.
func TestNew(t *testing.T) {
	all := of(api.MaxSide, 8, 16, 24, 32)
	for n := 1; n <= api.MaxSide; n++ {
		l, e := tabs.New(n)
		is(t, l, e, all[:n])
	}
	for _, n := range wrongCounts {
		l, e := tabs.New(n)
		refused(t, l, e)
	}
}

// P7.1: Set, at all places, of what is a stop already too.
func TestSet(t *testing.T) {
	for _, l := range some() {
		was := slices.Clone(l)
		for at := range l {
			for _, on := range []bool{true, false} {
				want := slices.Clone(l)
				want[at] = on
				x, e := tabs.Set(l, at, on)
				is(t, x, e, want)
			}
		}
		if !slices.Equal(l, was) {
			t.Fatalf("it is now %v", l)
		}
	}
}

// places are where l has stops.
func places(l []bool) (x []int) {
	for i, on := range l {
		if on {
			x = append(x, i)
		}
	}
	return x
}

// P7.1, P7.2: Next and Back, from all places, against the stops' places; Next is never ahead, Back never behind.
func TestNextBack(t *testing.T) {
	for _, l := range some() {
		stops := places(l)
		for at := range l {
			behind := slices.DeleteFunc(slices.Clone(stops), func(i int) bool { return i <= at })
			ahead := slices.DeleteFunc(slices.Clone(stops), func(i int) bool { return i >= at })
			slices.Reverse(ahead)
			for _, n := range steps(len(l)) {
				next, back := len(l)-1, 0
				if n <= len(behind) {
					next = append([]int{at}, behind...)[n]
				}
				if n <= len(ahead) {
					back = append([]int{at}, ahead...)[n]
				}
				x, e := tabs.Next(l, at, n)
				went(t, x, e, next)
				y, e := tabs.Back(l, at, n)
				went(t, y, e, back)
				if x < at || y > at {
					t.Fatalf("%v, %d, %d: %d, %d", l, at, n, x, y)
				}
			}
		}
	}
}

// P7.1: written out: a stop at the place itself is none to go to, the edges are no stops.
func TestNextBackWrittenOut(t *testing.T) {
	l := of(10, 0, 3, 4, 8)
	for _, c := range [][3]int{{0, 0, 0}, {0, 1, 3}, {0, 2, 4}, {0, 3, 8}, {0, 4, 9}, {0, 5, 9}, {3, 1, 4}, {4, 0, 4}, {4, 1, 8}, {8, 1, 9}, {9, 0, 9}, {9, 1, 9}} {
		x, e := tabs.Next(l, c[0], c[1])
		went(t, x, e, c[2])
	}
	for _, c := range [][3]int{{9, 0, 9}, {9, 1, 8}, {9, 2, 4}, {9, 3, 3}, {9, 4, 0}, {9, 5, 0}, {8, 1, 4}, {4, 1, 3}, {3, 0, 3}, {3, 1, 0}, {0, 0, 0}, {0, 1, 0}, {2, 1, 0}} {
		x, e := tabs.Back(l, c[0], c[1])
		went(t, x, e, c[2])
	}
	x, e := tabs.Next(of(20, 8, 16), 0, 1)
	went(t, x, e, 8)
}

// P7.1: Resize, from all sizes to all sizes.
func TestResize(t *testing.T) {
	fresh := of(api.MaxSide, 8, 16, 24, 32)
	for _, l := range append(some(), of(8), of(9), of(9, 7), of(17), of(17, 8, 15), of(39, 38)) {
		was := slices.Clone(l)
		for n := 1; n <= api.MaxSide; n++ {
			want := slices.Clone(fresh[:n])
			copy(want, l)
			x, e := tabs.Resize(l, n)
			is(t, x, e, want)
		}
		if !slices.Equal(l, was) {
			t.Fatalf("it is now %v", l)
		}
	}
}

// P7.1: wrong input of all calls.
func TestWrong(t *testing.T) {
	step := func(l []bool, at, n int) {
		t.Helper()
		x, e := tabs.Next(l, at, n)
		y, f := tabs.Back(l, at, n)
		if x != 0 || y != 0 || e != api.ErrForm || f != api.ErrForm {
			t.Errorf("%v, %d, %d: %d, %v; %d, %v", l, at, n, x, e, y, f)
		}
	}
	for _, at := range wrongPlaces {
		x, e := tabs.Set(threeColumns, at, true)
		refused(t, x, e)
		step(threeColumns, at, 0)
		step(threeColumns, at, 1)
	}
	for _, n := range wrongSteps {
		step(threeColumns, 1, n)
	}
	for _, l := range wrongStops {
		x, e := tabs.Set(l, 0, true)
		refused(t, x, e)
		x, e = tabs.Resize(l, 3)
		refused(t, x, e)
		step(l, 0, 0)
		step(l, 0, 1)
	}
	for _, n := range wrongCounts {
		x, e := tabs.Resize(threeColumns, n)
		refused(t, x, e)
	}
}

// spoil writes over all of l, its spare room too.
func spoil(l []bool) {
	for i := range l[:cap(l)] {
		l[:cap(l)][i] = !l[:cap(l)][i]
	}
}

// R2: what is told is new memory, and what is handed in stays, its spare room too.
func TestOwnMemory(t *testing.T) {
	room := of(12, 1, 5, 9, 10)
	was := slices.Clone(room)
	given := room[:6]
	made := func() [][]bool {
		a, _ := tabs.New(6)
		b, _ := tabs.Set(given, 2, true)
		c, _ := tabs.Set(given, 1, true)
		d, _ := tabs.Resize(given, 3)
		e, _ := tabs.Resize(given, 6)
		f, _ := tabs.Resize(given, 9)
		return [][]bool{a, b, c, d, e, f}
	}
	told := made()
	for i := range told {
		spoil(told[i])
		for k, l := range made() {
			if k > i && !slices.Equal(l, told[k]) {
				t.Errorf("%d changes %d", i, k)
			}
		}
	}
	if !slices.Equal(room, was) {
		t.Errorf("what was handed in is now %v", room)
	}
}
