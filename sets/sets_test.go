package sets_test

import (
	"math"
	"slices"
	"testing"

	"antipode/api"
	"antipode/sets"
)

// every lists all numbers that a Set may be, with whatever bits.
func every() []api.Set {
	var l []api.Set
	for u := range 1 << 16 {
		l = append(l, api.Set(u))
	}
	return l
}

// nodesOf lists the nodes of s, rising, by division: the bit n of s is set if s / 2^n is odd.
func nodesOf(s api.Set) []int {
	var l []int
	power := 1
	for n := range api.MaxNodes + 1 {
		if n > 0 && int(s)/power%2 == 1 {
			l = append(l, n)
		}
		power *= 2
	}
	return l
}

// sumOf gives the set of the nodes in l, of which none may be there twice.
func sumOf(l []int) api.Set {
	powers := []int{0, 2, 4, 8, 16, 32, 64, 128, 256, 512}
	s := 0
	for _, n := range l {
		s += powers[n]
	}
	return api.Set(s)
}

// strays lists numbers that are no nodes: those just outside, those that a shift takes out of a Set, those that would be nodes if some of their bits were lost, and both ends.
func strays() []int {
	l := []int{0, api.MaxNodes + 1, api.MaxNodes + 2, -1, -2, -api.MaxNodes, -api.MaxNodes - 1, 12, 15, 16, 17, 31, 32, 33, 62, 63, 64, 65, -16, -63, -64, 1000}
	for _, high := range []int{1 << 8, 1 << 16, 1 << 32, -1 << 8, -1 << 16, -1 << 32, math.MinInt} {
		l = append(l, high, high+1, high+api.MaxNodes)
	}
	return append(l, math.MaxInt, math.MaxInt-1, math.MinInt64, math.MaxInt32, math.MinInt32)
}

// few lists sets without nodes, of one, of some and of all, each with no other bit, with bit 0, with bits above MaxNodes and with all of these.
func few() []api.Set {
	var l []api.Set
	for _, s := range []api.Set{0, 2, 4, 512, 10, 0x154, 0x2aa, 0x3fc, 0x1fe, 0x3fe} {
		for _, other := range []api.Set{0, 1, 1 << 10, 1 << 15, 0xfc00, 0xfc01} {
			l = append(l, s|other)
		}
	}
	return l
}

// P9.1

func TestMay(t *testing.T) {
	for _, s := range every() {
		// Sums of the powers from 2^1 to 2^9 are the even numbers below 2^10.
		if want := s%2 == 0 && s < 1024; sets.May(s) != want {
			t.Errorf("May of %#x is not %v", s, want)
		}
	}
}

func TestMayCases(t *testing.T) {
	for _, s := range []api.Set{0, 2, 512, 10, 0x3fe, 0x3fc, 0x1fe} {
		if !sets.May(s) {
			t.Errorf("%#x is valid", s)
		}
	}
	for _, s := range []api.Set{1, 3, 0x3ff, 1 << 10, 1<<10 + 2, 0x7fe, 1 << 15, 0x8000 + 2, 0xfc00, 0xffff} {
		if sets.May(s) {
			t.Errorf("%#x is not valid", s)
		}
	}
}

func TestOfCases(t *testing.T) {
	cases := []struct {
		l    []int
		want api.Set
	}{
		{nil, 0}, {[]int{}, 0}, {make([]int, 0, 5), 0},
		{[]int{1}, 2}, {[]int{2}, 4}, {[]int{8}, 256}, {[]int{9}, 512},
		{[]int{1, 3}, 10}, {[]int{3, 1}, 10}, {[]int{3, 1, 3}, 10}, {[]int{1, 1}, 2}, {[]int{9, 9, 9}, 512},
		{[]int{9, 1}, 514}, {[]int{2, 5, 7, 5, 2}, 4 + 32 + 128},
		{[]int{1, 2, 3, 4, 5, 6, 7, 8, 9}, 0x3fe}, {[]int{9, 8, 7, 6, 5, 4, 3, 2, 1}, 0x3fe},
		{[]int{5, 1, 9, 2, 8, 3, 7, 4, 6, 5, 1}, 0x3fe},
	}
	for _, c := range cases {
		if s, e := sets.Of(c.l); s != c.want || e != api.OK {
			t.Errorf("Of %v: %#x %d", c.l, s, e)
		}
	}
}

func TestOfAll(t *testing.T) {
	for s := api.Set(0); s < 1024; s += 2 {
		up := nodesOf(s)
		down := slices.Clone(up)
		slices.Reverse(down)
		for _, l := range [][]int{up, down, slices.Concat(up, up), slices.Concat(up, down), slices.Concat(down, up[:len(up)/2])} {
			if got, e := sets.Of(l); got != s || e != api.OK {
				t.Errorf("Of %v: %#x %d", l, got, e)
			}
		}
	}
}

func TestOfManyElements(t *testing.T) {
	l := slices.Repeat([]int{4, 7, 4}, 1<<16)
	if s, e := sets.Of(l); s != 16+128 || e != api.OK {
		t.Errorf("Of 4 and 7 again and again: %#x %d", s, e)
	}
	if s, e := sets.Of(append(l, 10)); s != 0 || e != api.ErrArg {
		t.Errorf("Of 4 and 7 again and again, and 10: %#x %d", s, e)
	}
}

func TestOfStrays(t *testing.T) {
	for _, n := range strays() {
		lists := [][]int{{n}, {n, n}, {1, n}, {n, 1}, {9, n}, {n, 9}, {3, n, 5}, {1, 2, 3, 4, 5, 6, 7, 8, 9, n}, {n, 1, 2, 3, 4, 5, 6, 7, 8, 9}}
		for _, other := range strays() {
			lists = append(lists, []int{n, other}, []int{2, n, 2, other, 2})
		}
		for _, l := range lists {
			if s, e := sets.Of(l); s != 0 || e != api.ErrArg {
				t.Errorf("Of %v: %#x %d", l, s, e)
			}
		}
	}
}

func TestListAndCount(t *testing.T) {
	for _, s := range every() {
		want := nodesOf(s)
		if l := sets.List(s); !slices.Equal(l, want) {
			t.Errorf("List of %#x: %v", s, l)
		}
		if n := sets.Count(s); n != len(want) {
			t.Errorf("Count of %#x: %d", s, n)
		}
	}
}

func TestListAndCountCases(t *testing.T) {
	cases := []struct {
		s    api.Set
		want []int
	}{
		{0, nil}, {1, nil}, {1 << 10, nil}, {1 << 15, nil}, {0xfc01, nil},
		{2, []int{1}}, {3, []int{1}}, {512, []int{9}}, {0xfe01, []int{9}}, {10, []int{1, 3}}, {11, []int{1, 3}},
		{0x3fe, []int{1, 2, 3, 4, 5, 6, 7, 8, 9}}, {0xffff, []int{1, 2, 3, 4, 5, 6, 7, 8, 9}},
	}
	for _, c := range cases {
		if l := sets.List(c.s); !slices.Equal(l, c.want) {
			t.Errorf("List of %#x: %v", c.s, l)
		}
		if n := sets.Count(c.s); n != len(c.want) {
			t.Errorf("Count of %#x: %d", c.s, n)
		}
	}
}

// What List tells of a set that is valid is that set again.
func TestOfListIsTheSet(t *testing.T) {
	for _, s := range every() {
		got, e := sets.Of(sets.List(s))
		if e != api.OK || !sets.May(got) || (got == s) != sets.May(s) {
			t.Errorf("Of the List of %#x: %#x %d", s, got, e)
		}
	}
}

func TestHasWithLess(t *testing.T) {
	for _, s := range every() {
		l := nodesOf(s)
		for n := 1; n <= api.MaxNodes; n++ {
			is := slices.Contains(l, n)
			// Of the two one is s, the other one is 2^n away from it.
			with, less := s, s
			if is {
				less -= sumOf([]int{n})
			} else {
				with += sumOf([]int{n})
			}
			if sets.Has(s, n) != is || sets.With(s, n) != with || sets.Less(s, n) != less {
				t.Errorf("%d and %#x: Has %v, With %#x, Less %#x", n, s, sets.Has(s, n), sets.With(s, n), sets.Less(s, n))
			}
		}
	}
}

func TestHasWithLessCases(t *testing.T) {
	cases := []struct {
		s          api.Set
		n          int
		has        bool
		with, less api.Set
	}{
		{0, 1, false, 2, 0}, {0, 9, false, 512, 0}, {2, 1, true, 2, 0}, {512, 9, true, 512, 0},
		{10, 2, false, 14, 10}, {10, 1, true, 10, 8}, {10, 3, true, 10, 2},
		{1, 1, false, 3, 1}, {0xfc01, 9, false, 0xfe01, 0xfc01}, {0xffff, 9, true, 0xffff, 0xfdff}, {0xffff, 1, true, 0xffff, 0xfffd},
	}
	for _, c := range cases {
		if sets.Has(c.s, c.n) != c.has || sets.With(c.s, c.n) != c.with || sets.Less(c.s, c.n) != c.less {
			t.Errorf("%d and %#x: Has %v, With %#x, Less %#x", c.n, c.s, sets.Has(c.s, c.n), sets.With(c.s, c.n), sets.Less(c.s, c.n))
		}
	}
}

func TestHasWithLessOfStrays(t *testing.T) {
	l := strays()
	for n := -40; n <= 80; n++ {
		if n < 1 || n > api.MaxNodes {
			l = append(l, n)
		}
	}
	for _, n := range l {
		for _, s := range few() {
			if sets.Has(s, n) || sets.With(s, n) != s || sets.Less(s, n) != s {
				t.Errorf("%d and %#x: Has %v, With %#x, Less %#x", n, s, sets.Has(s, n), sets.With(s, n), sets.Less(s, n))
			}
		}
	}
}

// P9.2

// within lists the sets of nodes of s, rising.
func within(s api.Set) []api.Set {
	l := nodesOf(s)
	var out []api.Set
	for x := api.Set(0); x < 1024; x += 2 {
		if !slices.ContainsFunc(nodesOf(x), func(n int) bool { return !slices.Contains(l, n) }) {
			out = append(out, x)
		}
	}
	return out
}

// told lists what Subsets calls f with, if f tells false at the call stop and then goes on to tell true; 0 for never.
func told(s api.Set, stop int) []api.Set {
	var l []api.Set
	sets.Subsets(s, func(x api.Set) bool {
		l = append(l, x)
		return len(l) != stop
	})
	return l
}

func TestSubsetsCases(t *testing.T) {
	cases := []struct {
		s    api.Set
		want []api.Set
	}{
		{0, []api.Set{0}}, {1, []api.Set{0}}, {1 << 10, []api.Set{0}}, {1 << 15, []api.Set{0}}, {0xfc01, []api.Set{0}},
		{2, []api.Set{0, 2}}, {3, []api.Set{0, 2}}, {512, []api.Set{0, 512}}, {0xfe01, []api.Set{0, 512}}, {0xfc03, []api.Set{0, 2}},
		{10, []api.Set{0, 2, 8, 10}}, {11, []api.Set{0, 2, 8, 10}}, {0xfc0b, []api.Set{0, 2, 8, 10}},
		{514, []api.Set{0, 2, 512, 514}}, {6, []api.Set{0, 2, 4, 6}},
		{292, []api.Set{0, 4, 32, 36, 256, 260, 288, 292}},
	}
	for _, c := range cases {
		if l := told(c.s, 0); !slices.Equal(l, c.want) {
			t.Errorf("Subsets of %#x: %v", c.s, l)
		}
	}
}

func TestSubsetsOfAllNodes(t *testing.T) {
	for _, s := range []api.Set{0x3fe, 0x3ff, 0x7fe, 0xfffe, 0xffff} {
		l := told(s, 0)
		if len(l) != 512 {
			t.Fatalf("Subsets of %#x: %d of them", s, len(l))
		}
		for i, x := range l {
			if x != api.Set(2*i) {
				t.Errorf("Subsets of %#x: the one at %d is %#x", s, i, x)
			}
		}
	}
}

func TestSubsetsOfAll(t *testing.T) {
	for s := api.Set(0); s < 1024; s += 2 {
		want := within(s)
		for _, other := range []api.Set{0, 1, 1 << 10, 1 << 15, 0xfc00, 0xfc01} {
			if l := told(s|other, 0); !slices.Equal(l, want) {
				t.Fatalf("Subsets of %#x: %v", s|other, l)
			}
		}
	}
}

// At each call that f may tell false, no other call follows, whatever f would tell.
func TestSubsetsStops(t *testing.T) {
	for _, s := range few() {
		want := within(s)
		for stop := 1; stop <= len(want); stop++ {
			if l := told(s, stop); !slices.Equal(l, want[:stop]) {
				t.Fatalf("Subsets of %#x, false at the call %d: %v", s, stop, l)
			}
		}
		if l := told(s, len(want)+1); !slices.Equal(l, want) {
			t.Fatalf("Subsets of %#x, false behind the last call: %v", s, l)
		}
	}
}

func TestSubsetsOfNil(t *testing.T) {
	for _, s := range every() {
		sets.Subsets(s, nil)
	}
}

// R1: the panic of an f does not come out, and f is not called again.
func TestSubsetsWherePanics(t *testing.T) {
	for _, s := range []api.Set{0, 2, 10, 0x3fe, 0xffff} {
		want := within(s)
		for _, stop := range []int{1, len(want)/2 + 1, len(want)} {
			var l []api.Set
			sets.Subsets(s, func(x api.Set) bool {
				l = append(l, x)
				if len(l) == stop {
					panic("f")
				}
				return true
			})
			if !slices.Equal(l, want[:stop]) {
				t.Errorf("Subsets of %#x, panic at the call %d: %v", s, stop, l)
			}
		}
	}
	var none map[int]int
	sets.Subsets(0x3fe, func(api.Set) bool { none[1] = 1; return true })
	sets.Subsets(0x3fe, func(api.Set) bool { panic(nil) })
}

// A function that calls all the others in the midst, and Subsets itself, meets nothing that is under way.
func TestSubsetsWithin(t *testing.T) {
	var pairs [][2]api.Set
	sets.Subsets(14, func(x api.Set) bool {
		sets.Subsets(x, func(y api.Set) bool {
			pairs = append(pairs, [2]api.Set{x, y})
			sets.Subsets(0xffff, func(api.Set) bool { return false })
			return true
		})
		return true
	})
	var want [][2]api.Set
	for _, x := range within(14) {
		for _, y := range within(x) {
			want = append(want, [2]api.Set{x, y})
		}
	}
	if len(want) != 27 || !slices.Equal(pairs, want) {
		t.Errorf("Subsets of the Subsets of 14: %v", pairs)
	}
}

// R3

func TestOfLeavesItsList(t *testing.T) {
	for _, c := range [][]int{{}, {3, 1, 3}, {1, 10}, {0, 9, -1}, {9, 8, 7, 6, 5, 4, 3, 2, 1}} {
		whole := append(slices.Clone(c), 77, 78, 79)
		l := whole[:len(c)]
		s, e := sets.Of(l)
		if !slices.Equal(whole, append(slices.Clone(c), 77, 78, 79)) {
			t.Errorf("Of %v changed it, or what lies behind: %v", c, whole)
		}
		for i := range whole {
			whole[i] = 5
		}
		if again, f := sets.Of(c); again != s || f != e {
			t.Errorf("Of %v: %#x %d, later %#x %d", c, s, e, again, f)
		}
	}
}

// What is done with one answer of List is seen in no other answer, neither in one that was given nor in one that is to come.
func TestListsAreNewMemory(t *testing.T) {
	for _, s := range few() {
		want := nodesOf(s)
		first, second := sets.List(s), sets.List(s)
		first = first[:cap(first)]
		for i := range first {
			first[i] = 77
		}
		_ = append(first[:0], 66, 66, 66)
		if !slices.Equal(second, want) {
			t.Errorf("two Lists of %#x share memory: %v", s, second)
		}
		if l := sets.List(s); !slices.Equal(l, want) || sets.Count(s) != len(want) {
			t.Errorf("List of %#x, when another one was written over: %v", s, l)
		}
		got, e := sets.Of(second)
		clear(second)
		if again, f := sets.Of(want); again != got || f != e {
			t.Errorf("Of %v: %#x %d, later %#x %d", want, got, e, again, f)
		}
	}
}
