package entries_test

import (
	"math"
	"slices"
	"testing"

	"antipode/api"
	"antipode/entries"
)

// P12.5, and R1 to R4, for logs that are valid and for those that are not.

// spare is what lies behind the end of each guarded list.
func spare() api.Entry {
	return entry("spare", 7, 77, 777)
}

// guard gives es with something behind its end, and tells whether all of it is still so.
func guard(es []api.Entry) (g []api.Entry, is func() bool) {
	whole := slices.Clone(es)
	for range 5 {
		whole = append(whole, spare())
	}
	want := slices.Clone(whole)
	return whole[:len(es)], func() bool { return slices.Equal(whole, want) }
}

// spoil writes over all memory of es, also over what lies behind its end.
func spoil(es []api.Entry) {
	for i := range es[:cap(es)] {
		es[:cap(es)][i] = entry("spoilt", 6, 66, 666)
	}
}

// call is a call whose answer has entries.
type call struct {
	name string
	do   func(l api.Log, es []api.Entry) []api.Entry
}

// calls lists calls of all such functions, which keep all of l, a part of it, or nothing.
func calls() []call {
	out := []call{
		{"Push", func(l api.Log, es []api.Entry) []api.Entry { return entries.Push(l, entry("new", 1, 9, 1)).Entries }},
	}
	for k := -1; k <= 7; k++ {
		out = append(out,
			call{"Compact", func(l api.Log, es []api.Entry) []api.Entry {
				c, _ := entries.Compact(l, l.Base+k)
				return c.Entries
			}},
			call{"Slice", func(l api.Log, es []api.Entry) []api.Entry { return entries.Slice(l, l.Base+k, 2) }},
			call{"Slice", func(l api.Log, es []api.Entry) []api.Entry { return entries.Slice(l, l.Base+k, math.MaxInt) }})
		for term := range 4 {
			out = append(out, call{"Merge", func(l api.Log, es []api.Entry) []api.Entry {
				m, _, _ := entries.Merge(l, l.Base+k, term, es)
				return m.Entries
			}})
		}
	}
	return out
}

// fresh fails unless all that the calls answer is memory of its own.
func fresh(t *testing.T, l api.Log, terms []int) {
	t.Helper()
	mine := l.Entries
	for _, f := range calls() {
		own, ownIs := guard(mine)
		es, esAre := guard(follow("their", l.Base, terms...))
		l.Entries = own
		got := f.do(l, es)
		want := slices.Clone(got)
		if !ownIs() || !esAre() {
			t.Fatalf("%s changed %+v or %+v", f.name, l, es)
		}
		other := f.do(l, es)
		if !slices.Equal(other, want) {
			t.Fatalf("%s of %+v and %+v: once %+v, once %+v", f.name, l, es, want, other)
		}
		spoil(append(other, entry("more", 1, 1, 1)))
		spoil(other)
		if !ownIs() || !esAre() || !slices.Equal(got, want) {
			t.Fatalf("%s of %+v and %+v shares memory with them, or with another answer", f.name, l, es)
		}
		spoil(own)
		spoil(es)
		if !slices.Equal(got, want) {
			t.Fatalf("%s of %+v and %+v hangs on them", f.name, l, es)
		}
	}
}

func TestAnswersAreNewMemory(t *testing.T) {
	for _, l := range sound(t) {
		for _, terms := range [][]int{nil, {1}, {2}, {2, 3}, {1, 2, 3}, {1, 1, 1, 1}} {
			fresh(t, l, terms)
		}
	}
	for _, l := range odd() {
		fresh(t, l, []int{1, 2, 3})
	}
}

func TestQuestionsChangeNothing(t *testing.T) {
	for _, l := range slices.Concat(sound(t), odd()) {
		own, is := guard(l.Entries)
		l.Entries = own
		may, last, conf := entries.May(l), entries.Last(l), entries.Conf(l)
		for _, i := range numbers(l) {
			entries.Term(l, i)
			entries.At(l, i)
			entries.Newer(l, i, 2)
		}
		if !is() || entries.May(l) != may || entries.Last(l) != last || entries.Conf(l) != conf {
			t.Fatalf("a question changed %+v", l)
		}
	}
}

// A log may hold its entries anywhere in a greater list, and lists without entries are all the same.
func TestNilAndEmpty(t *testing.T) {
	whole := follow("whole", 0, 1, 2, 3, 4)
	for _, none := range [][]api.Entry{nil, {}, make([]api.Entry, 0, 9), whole[:0], whole[2:2], whole[4:]} {
		l := api.Log{Base: 5, BaseTerm: 2, Conf: joint("base", 5), Entries: none}
		if !entries.May(l) || entries.Last(l) != 5 || entries.Conf(l) != l.Conf || len(entries.Slice(l, 0, 9)) != 0 || !entries.Newer(l, 5, 2) {
			t.Errorf("%#v", none)
		}
		if m, last, ok := entries.Merge(l, 5, 2, none); !same(m, log(5, 2)) || last != 5 || !ok {
			t.Errorf("Merge of %#v: %+v %d %v", none, m, last, ok)
		}
		if m, last, ok := entries.Merge(log(5, 2, 2, 3), 6, 2, none); !same(m, log(5, 2, 2, 3)) || last != 6 || !ok {
			t.Errorf("Merge of %#v: %+v %d %v", none, m, last, ok)
		}
		if m := entries.Push(l, whole[0]); !slices.Equal(m.Entries, whole[:1]) {
			t.Errorf("Push onto %#v: %+v", none, m)
		}
		if c, e := entries.Compact(l, 5); !same(c, l) || e != api.OK {
			t.Errorf("Compact of %#v: %+v %d", none, c, e)
		}
	}
}

// odd lists logs that are not valid.
func odd() []api.Log {
	var out []api.Log
	for _, base := range append(far(), math.MaxInt-2, math.MinInt+2, -3, 0) {
		for _, baseTerm := range append(far(), 0, 2) {
			for _, terms := range [][]int{nil, {0}, {-1}, {1, 2, 3}, {3, 2, 1}, {math.MaxInt, math.MinInt, top + 1, 0}} {
				if l := log(base, baseTerm, terms...); !modelMay(l) {
					out = append(out, l)
				}
			}
		}
	}
	return out
}

// Whatever the logs and the numbers are, no call panics, and beside a false or an error there is nothing else.
func TestNoArgumentsPanic(t *testing.T) {
	lists := [][]api.Entry{nil, follow("their", 0, 2), follow("their", 0, 0, math.MinInt, math.MaxInt), follow("their", 0, 1, 2, 3, 3, 3, 3, 3, 3)}
	for _, l := range slices.Concat(odd(), []api.Log{{}, log(0, 0, 1, 2), log(top, top, top)}) {
		if entries.May(l) != modelMay(l) {
			t.Fatalf("May of %+v: not %v", l, modelMay(l))
		}
		entries.Last(l)
		entries.Conf(l)
		entries.Push(l, api.Entry{})
		for _, i := range append(numbers(l), far()...) {
			if term, is := entries.Term(l, i); !is && term != 0 {
				t.Fatalf("Term %d of %+v: %d", i, l, term)
			}
			if e, is := entries.At(l, i); !is && e != (api.Entry{}) {
				t.Fatalf("At %d of %+v: %+v", i, l, e)
			}
			if c, e := entries.Compact(l, i); e != api.OK && !same(c, api.Log{}) {
				t.Fatalf("Compact to %d of %+v: %+v", i, l, c)
			}
			for _, n := range []int{math.MinInt, -1, 0, 1, 2, math.MaxInt} {
				entries.Newer(l, i, n)
				if es := entries.Slice(l, i, n); len(es) > max(n, 0) {
					t.Fatalf("Slice from %d of %+v, at most %d: %+v", i, l, n, es)
				}
				for _, es := range lists {
					if m, last, ok := entries.Merge(l, i, n, es); !ok && (last != 0 || !same(m, l)) {
						t.Fatalf("Merge, %d of %d, %+v, into %+v: %+v %d", i, n, es, l, m, last)
					}
				}
			}
		}
	}
}
