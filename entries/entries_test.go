package entries_test

import (
	"math"
	"slices"
	"testing"

	"antipode/api"
	"antipode/entries"
)

const top = 1 << 40 // the most that Base, BaseTerm and a term may be

// P12.1, May

func TestMayCases(t *testing.T) {
	good := []api.Log{
		{}, {Entries: []api.Entry{}}, log(0, 0), log(0, 0, 1), log(0, 0, 1, 1, 2, 7, 7), log(0, 1), log(5, 0), log(5, 2, 2), log(5, 2, 3), log(5, 2, 2, 3, 3),
		log(top, 0), log(0, top), log(top, top), log(top, top, top), log(top, top, top, top, top), log(0, 0, top), log(0, 0, 1, top), log(top, 0, 1, 2, 3),
		log(top-1, top-1, top-1, top), log(1, 1, 1),
	}
	for _, l := range good {
		if !entries.May(l) {
			t.Errorf("%+v is valid", l)
		}
	}
	bad := []api.Log{
		log(-1, 0), log(-1, 0, 1), log(-1, 0, 1, 2, 3), log(top+1, 0), log(top+1, 0, 1), log(top+1, 0, 1, 2, 3),
		log(0, -1), log(0, -1, 1), log(0, -1, 1, 2, 3), log(0, top+1), log(0, top+1, top), log(0, top+1, top+1), log(0, top+1, top+1, top+1),
		log(0, 0, 0), log(0, 0, -1), log(0, 0, top+1), log(0, 0, 0, 1), log(0, 0, 1, 0), log(0, 0, 1, top+1), log(0, 0, top, top+1), log(0, top, top, top+1),
		log(0, 0, 2, 1), log(0, 0, 1, 2, 1), log(0, 0, 2, 1, 2), log(0, 0, 1, 2, 1, 2), log(0, 0, top, top-1),
		log(0, 2, 1), log(5, 2, 1), log(0, 2, 1, 2), log(0, 2, 1, 3, 3), log(0, 1, 0), log(0, top, top-1), log(top, top, 1),
	}
	for _, l := range bad {
		if entries.May(l) {
			t.Errorf("%+v is not valid", l)
		}
	}
}

// far lists numbers that no number and no term may be.
func far() []int {
	return []int{-1, -2, top + 1, top + 2, -top, 1<<41 - 1, 1 << 41, 1 << 62, math.MaxInt - 1, math.MaxInt, math.MinInt, math.MinInt + 1, -1 << 32, -1 << 31}
}

// In logs of up to four entries, Base, BaseTerm and each term alone are all that they may be, and what they may not.
func TestMayEnds(t *testing.T) {
	for length := range 5 {
		terms := slices.Repeat([]int{3}, length)
		for _, n := range append(far(), 0, 1, 2, 3, 4, 1<<31, 1<<32, top-1, top) {
			ends := n >= 0 && n <= top
			if entries.May(log(n, 3, terms...)) != ends {
				t.Errorf("Base %d and %d entries: not %v", n, length, ends)
			}
			if want := ends && (n <= 3 || length == 0); entries.May(log(2, n, terms...)) != want {
				t.Errorf("BaseTerm %d and %d entries: not %v", n, length, want)
			}
			for i := range terms {
				l := log(2, 1, terms...)
				l.Entries[i].Term = n
				if want := ends && n >= 1 && (n <= 3 || i == length-1) && (n >= 3 || i == 0); entries.May(l) != want {
					t.Errorf("%+v: not %v", l, want)
				}
			}
		}
	}
}

func TestMayOfAll(t *testing.T) {
	for _, base := range []int{-1, 0, 1, 7, top, top + 1} {
		for baseTerm := -1; baseTerm <= 4; baseTerm++ {
			for _, terms := range sequences(5, 0, 1, 2, 3) {
				if l := log(base, baseTerm, terms...); entries.May(l) != modelMay(l) {
					t.Fatalf("%+v: not %v", l, modelMay(l))
				}
			}
		}
	}
}

// Nothing but numbers and terms makes a log not valid.
func TestMayOfTheRest(t *testing.T) {
	for _, kind := range []int{-1, 0, 1, 2, 3, math.MaxInt, math.MinInt} {
		l := api.Log{Conf: api.Joint{Old: api.Config{Voters: 1, Elect: -1}, Two: true}, Entries: []api.Entry{{Term: 1, Kind: kind, Data: "\xff\x00", Conf: api.Joint{New: api.Config{Learners: 0xffff}}}}}
		if !entries.May(l) {
			t.Errorf("%+v is valid", l)
		}
	}
}

// P12.1, Last, Term and At

func TestLast(t *testing.T) {
	cases := []struct {
		l    api.Log
		want int
	}{
		{api.Log{}, 0}, {log(0, 0, 1), 1}, {log(0, 0, 1, 1, 1), 3}, {log(5, 2), 5}, {log(5, 2, 2), 6}, {log(5, 2, 2, 3, 3), 8},
		{log(top, 0), top}, {log(top, 0, 1), top + 1}, {log(top, 0, 1, 2, 3), top + 3},
	}
	for _, c := range cases {
		if got := entries.Last(c.l); got != c.want {
			t.Errorf("%+v: %d", c.l, got)
		}
	}
}

func TestTermAndAtCases(t *testing.T) {
	least, most := math.MinInt, math.MaxInt
	cases := []struct {
		l     api.Log
		none  []int       // numbers that have no term
		terms map[int]int // those that have one
	}{
		{api.Log{}, []int{-1, 1, 2, least, most}, map[int]int{0: 0}},
		{log(0, 3), []int{-1, 1, 2, least, most}, map[int]int{0: 3}},
		{log(0, 0, 4), []int{-1, 2, least, most}, map[int]int{0: 0, 1: 4}},
		{log(5, 2), []int{-5, -1, 0, 1, 4, 6, 7, least, most}, map[int]int{5: 2}},
		{log(5, 0, 1), []int{-1, 0, 1, 4, 7, least, most}, map[int]int{5: 0, 6: 1}},
		{log(5, 2, 2, 3, 5), []int{-1, 0, 1, 3, 4, 9, 10, least, least + 5, least + 6, most}, map[int]int{5: 2, 6: 2, 7: 3, 8: 5}},
		{log(top, 1, 2, top), []int{-1, 0, 1, 2, top - 1, top + 3, least, least + top + 1, most}, map[int]int{top: 1, top + 1: 2, top + 2: top}},
	}
	for _, c := range cases {
		for _, i := range c.none {
			term, is := entries.Term(c.l, i)
			if e, there := entries.At(c.l, i); term != 0 || is || e != (api.Entry{}) || there {
				t.Errorf("%d of %+v: %d %v, %+v %v", i, c.l, term, is, e, there)
			}
		}
		for i, want := range c.terms {
			if term, is := entries.Term(c.l, i); term != want || !is {
				t.Errorf("Term %d of %+v: %d %v", i, c.l, term, is)
			}
			e, is := entries.At(c.l, i)
			if i == c.l.Base {
				if e != (api.Entry{}) || is {
					t.Errorf("At Base of %+v: %+v %v", c.l, e, is)
				}
			} else if e != c.l.Entries[i-c.l.Base-1] || e != entry("own", i, want, (i-c.l.Base-1)%3) || !is {
				t.Errorf("At %d of %+v: %+v %v", i, c.l, e, is)
			}
		}
	}
}

// P12.1, Slice

func TestSliceCases(t *testing.T) {
	least, most := math.MinInt, math.MaxInt
	l := log(5, 2, 2, 3, 3, 4)
	cases := []struct{ from, most, first, last int }{ // the numbers of the first one and of the last one; 0, 0: none
		{6, 4, 6, 9}, {6, 5, 6, 9}, {6, 3, 6, 8}, {6, 1, 6, 6}, {6, 0, 0, 0}, {6, -1, 0, 0}, {6, most, 6, 9}, {6, least, 0, 0},
		{5, 4, 6, 9}, {5, 5, 6, 9}, {5, 1, 6, 6}, {5, 0, 0, 0}, {5, -1, 0, 0}, {5, most, 6, 9},
		{4, 4, 6, 9}, {4, 5, 6, 9}, {4, 3, 6, 8}, {4, 1, 6, 6}, {0, 2, 6, 7}, {-1, 4, 6, 9}, {-1, 0, 0, 0}, {-1, -1, 0, 0}, {-1, most, 6, 9},
		{least, 1, 6, 6}, {least, 4, 6, 9}, {least, most, 6, 9}, {least, least, 0, 0}, {least + 1, 2, 6, 7}, {least + 6, 2, 6, 7}, {least + 7, 2, 6, 7},
		{7, 3, 7, 9}, {7, 4, 7, 9}, {7, 2, 7, 8}, {7, 1, 7, 7}, {7, 0, 0, 0}, {7, -1, 0, 0}, {7, most, 7, 9}, {7, most - 1, 7, 9},
		{9, 1, 9, 9}, {9, 2, 9, 9}, {9, 0, 0, 0}, {9, -1, 0, 0}, {9, most, 9, 9},
		{10, 1, 0, 0}, {10, 0, 0, 0}, {10, -1, 0, 0}, {10, most, 0, 0}, {11, 1, 0, 0}, {99, most, 0, 0}, {most, 1, 0, 0}, {most, most, 0, 0}, {most, least, 0, 0},
	}
	for _, c := range cases {
		var want []api.Entry
		for i, e := range l.Entries {
			if no := i + 6; c.first <= no && no <= c.last {
				want = append(want, e)
			}
		}
		if got := entries.Slice(l, c.from, c.most); !slices.Equal(got, want) {
			t.Errorf("from %d, at most %d: %+v", c.from, c.most, got)
		}
	}
	for _, l := range []api.Log{{}, log(0, 3), log(5, 2), log(top, top)} {
		for _, from := range numbers(l) {
			for _, n := range []int{least, -1, 0, 1, 9, most} {
				if got := entries.Slice(l, from, n); len(got) != 0 {
					t.Errorf("from %d, at most %d, of %+v: %+v", from, n, l, got)
				}
			}
		}
	}
}

// P12.2, Push

func TestPush(t *testing.T) {
	for _, l := range []api.Log{{}, log(0, 0), log(5, 2), log(5, 2, 2), log(5, 2, 2, 3, 3), log(top, top, top)} {
		// An entry is appended also where it makes a log that is not valid.
		for _, e := range []api.Entry{{}, entry("new", 1, 3, 0), entry("new", 2, 3, 1), entry("new", 3, 4, 2), entry("new", 4, 0, 9), entry("new", 5, -1, -1), entry("new", 6, 1, 2), entry("new", 7, top+1, 0)} {
			got := entries.Push(l, e)
			want := api.Log{Base: l.Base, BaseTerm: l.BaseTerm, Conf: l.Conf, Entries: append(slices.Clone(l.Entries), e)}
			if !same(got, want) {
				t.Errorf("%+v onto %+v: %+v", e, l, got)
			}
			if last := entries.Last(got); last != entries.Last(l)+1 {
				t.Errorf("%+v onto %+v: Last is %d", e, l, last)
			}
		}
	}
}

func TestPushGrows(t *testing.T) {
	l := log(7, 1)
	for i := range 100 {
		l = entries.Push(l, entry("own", 8+i, 1+i/10, i%3))
		if entries.Last(l) != 8+i || !entries.May(l) {
			t.Fatalf("Last is %d behind %d entries", entries.Last(l), i+1)
		}
	}
	for i := range 100 {
		if e, is := entries.At(l, 8+i); e != entry("own", 8+i, 1+i/10, i%3) || !is {
			t.Errorf("At %d: %+v %v", 8+i, e, is)
		}
	}
}

// P12.2, Merge

// merge is a Merge, and what it makes of the log: so many entries of its own, and of the others those from one on.
type merge struct {
	name       string
	prev, term int
	es         []int // terms
	ok         bool
	keep, from int
}

func (c merge) check(t *testing.T, l api.Log) {
	t.Helper()
	es := follow("their", c.prev, c.es...)
	want, wantLast := l, 0
	if c.ok {
		want.Entries = slices.Concat(l.Entries[:c.keep], es[c.from:])
		wantLast = c.prev + len(es)
	}
	if m, last, ok := entries.Merge(l, c.prev, c.term, es); !same(m, want) || last != wantLast || ok != c.ok {
		t.Errorf("%s: Merge, %d of %d, %v, into %+v: %+v %d %v", c.name, c.prev, c.term, c.es, l, m, last, ok)
	}
}

func TestMergeCases(t *testing.T) {
	least, most := math.MinInt, math.MaxInt
	l := log(5, 2, 2, 3, 3) // the entries 6, 7 and 8
	cases := []merge{
		{"prev is negative", -1, 0, nil, false, 0, 0}, {"prev is negative", -1, 2, []int{1, 1, 1, 1, 1, 2, 2, 3, 3, 3}, false, 0, 0}, {"prev is negative", least, 0, []int{1}, false, 0, 0}, {"prev is negative", -5, 2, []int{2}, false, 0, 0},
		{"prev is one above Last", 9, 3, nil, false, 0, 0}, {"prev is one above Last", 9, 3, []int{3}, false, 0, 0}, {"prev is one above Last", 9, 0, []int{3}, false, 0, 0}, {"prev is far above Last", most, 0, []int{3}, false, 0, 0}, {"prev is far above Last", most, 3, nil, false, 0, 0},

		{"Last, its term", 8, 3, nil, true, 3, 0}, {"Last, its term", 8, 3, []int{3}, true, 3, 0}, {"Last, its term", 8, 3, []int{3, 4}, true, 3, 0}, {"Last, its term", 8, 3, []int{9}, true, 3, 0},
		{"Last, a greater term", 8, 4, nil, false, 0, 0}, {"Last, a greater term", 8, 4, []int{4}, false, 0, 0}, {"Last, a lesser term", 8, 2, []int{3}, false, 0, 0}, {"Last, no term", 8, 0, []int{3}, false, 0, 0},

		{"within, its term", 6, 2, nil, true, 3, 0}, {"within, its term", 7, 3, nil, true, 3, 0},
		{"within, another term", 6, 3, nil, false, 0, 0}, {"within, another term", 6, 3, []int{3, 3}, false, 0, 0}, {"within, another term", 7, 2, []int{3}, false, 0, 0}, {"within, another term", 7, -3, []int{3}, false, 0, 0},

		{"Base, its term", 5, 2, nil, true, 3, 0}, {"Base, another term", 5, 1, nil, false, 0, 0}, {"Base, another term", 5, 3, []int{2, 3, 3}, false, 0, 0}, {"Base, another term", 5, 0, []int{2, 3, 3}, false, 0, 0},

		{"all are there", 5, 2, []int{2, 3, 3}, true, 3, 3}, {"all are there, the last one is not among them", 5, 2, []int{2, 3}, true, 3, 2}, {"one is there", 5, 2, []int{2}, true, 3, 1}, {"one is there", 6, 2, []int{3}, true, 3, 1}, {"one is there", 7, 3, []int{3}, true, 3, 1},
		{"the first one differs", 5, 2, []int{3, 3, 3}, true, 0, 0}, {"the first one differs, and is the only one", 5, 2, []int{3}, true, 0, 0}, {"the first one differs", 6, 2, []int{4, 4}, true, 1, 0}, {"the first one differs, by a lesser term", 6, 2, []int{2}, true, 1, 0},
		{"one in the middle differs", 5, 2, []int{2, 2, 3}, true, 1, 1}, {"one in the middle differs", 5, 2, []int{2, 4, 3}, true, 1, 1}, {"one in the middle differs, and there are more", 5, 2, []int{2, 4, 3, 3, 9}, true, 1, 1},
		{"the last one differs", 5, 2, []int{2, 3, 4}, true, 2, 2}, {"the last one differs", 6, 2, []int{3, 4}, true, 2, 1}, {"the last one differs", 7, 3, []int{4}, true, 2, 0}, {"the last one differs, and is in the middle of the log", 5, 2, []int{2, 2}, true, 1, 1},
		{"they go beyond", 5, 2, []int{2, 3, 3, 3}, true, 3, 3}, {"they go beyond", 6, 2, []int{3, 3, 4, 5}, true, 3, 2}, {"they go beyond, and one differs", 6, 2, []int{3, 4, 4, 5}, true, 2, 1}, {"they go beyond, and all differ", 5, 2, []int{4, 4, 4, 4, 4}, true, 0, 0},
		{"terms that no log may have", 7, 3, []int{0, -1, top + 1}, true, 2, 0}, {"terms that fall", 8, 3, []int{2, 1}, true, 3, 0},

		{"they end below Base", 0, 0, nil, false, 0, 0}, {"they end below Base", 4, 2, nil, false, 0, 0}, {"they end below Base", 3, 1, []int{2}, false, 0, 0}, {"they end below Base", 0, 0, []int{1, 1, 1, 2}, false, 0, 0},
		{"they end at Base", 4, 2, []int{2}, true, 3, 1}, {"they end at Base, with another term", 4, 9, []int{9}, true, 3, 1}, {"they end at Base", 0, 0, []int{1, 1, 1, 1, 1}, true, 3, 5}, {"they end at Base", 3, -1, []int{0, 0}, true, 3, 2},
		{"they end behind Base, there", 4, 1, []int{2, 2}, true, 3, 2}, {"they end behind Base, there", 0, 0, []int{1, 1, 2, 2, 2, 2, 3, 3}, true, 3, 8}, {"they end behind Base, and differ", 4, 1, []int{2, 3}, true, 0, 1}, {"they end behind Base, and differ", 3, 1, []int{1, 2, 2, 2, 9}, true, 1, 3},
		{"they end behind Base, other ones at Base and below", 2, 7, []int{8, 8, 8, 2, 3}, true, 3, 5}, {"they end behind Base, and go beyond", 4, 2, []int{2, 2, 3, 3, 3, 4}, true, 3, 4}, {"they end behind Base, and one differs", 4, 2, []int{2, 2, 3, 4, 4, 4}, true, 2, 3},
		{"they end behind Base, prev has no term that agrees", 4, most, []int{2, 2}, true, 3, 2}, {"they end behind Base, prev has no term that agrees", 4, least, []int{2, 2}, true, 3, 2},
	}
	for _, c := range cases {
		c.check(t, l)
	}
}

func TestMergeIntoNothing(t *testing.T) {
	none := []merge{
		{"the example", 0, 0, []int{1, 1}, true, 0, 0}, {"the example with other terms", 0, 0, []int{4, 7}, true, 0, 0}, {"nothing", 0, 0, nil, true, 0, 0},
		{"another term", 0, 1, []int{1, 1}, false, 0, 0}, {"another term", 0, -1, nil, false, 0, 0}, {"prev is above Last", 1, 0, nil, false, 0, 0}, {"prev is above Last", 1, 1, []int{1}, false, 0, 0}, {"prev is negative", -1, 0, []int{1, 1}, false, 0, 0},
	}
	for _, c := range none {
		c.check(t, api.Log{})
		c.check(t, log(0, 0))
	}
	compacted := []merge{
		{"behind Base", 5, 2, []int{2, 3}, true, 0, 0}, {"nothing", 5, 2, nil, true, 0, 0}, {"another term", 5, 3, []int{3}, false, 0, 0}, {"ends below Base", 3, 2, []int{2}, false, 0, 0},
		{"ends at Base", 3, 2, []int{2, 2}, true, 0, 2}, {"ends behind Base", 3, 2, []int{2, 2, 2}, true, 0, 2}, {"ends far behind Base", 0, 0, []int{1, 1, 1, 1, 1, 6, 7}, true, 0, 5}, {"prev is above Last", 6, 2, []int{2}, false, 0, 0},
	}
	for _, c := range compacted {
		c.check(t, log(5, 2))
	}
	merge{"at the end of the numbers", top, top, []int{top}, true, 0, 0}.check(t, log(top, top))
	merge{"at the end of the numbers", top - 1, 1, []int{1, top}, true, 0, 1}.check(t, log(top, top))
}

// What is there already stays, also where its data are others: only numbers and terms are held against each other.
func TestMergeKeepsItsOwn(t *testing.T) {
	l := log(0, 0, 1, 1, 2)
	m, _, _ := entries.Merge(l, 0, 0, []api.Entry{{Term: 1, Kind: 2, Data: "other"}, {Term: 1}, {Term: 2}, {Term: 2, Data: "new"}})
	if !slices.Equal(m.Entries, append(slices.Clone(l.Entries), api.Entry{Term: 2, Data: "new"})) {
		t.Errorf("%+v", m)
	}
}

// P12.3

func TestCompactCases(t *testing.T) {
	// The entries 6 to 10, of which 7 and 9 set configurations; all others have one, too, that does not count.
	l := log(5, 2)
	for i, kind := range []int{1, 2, 0, 2, 1} {
		l.Entries = append(l.Entries, entry("own", 6+i, 2+i, kind))
	}
	base, seven, nine := joint("base", 5), joint("own", 7), joint("own", 9)
	for i, c := range []struct {
		term int
		conf api.Joint
	}{{2, base}, {2, base}, {3, seven}, {4, seven}, {5, nine}, {6, nine}} {
		want := api.Log{Base: 5 + i, BaseTerm: c.term, Conf: c.conf, Entries: l.Entries[i:]}
		if got, e := entries.Compact(l, 5+i); !same(got, want) || e != api.OK {
			t.Errorf("to %d: %+v %d", 5+i, got, e)
		}
	}
	for _, to := range []int{4, 11, 3, 0, -1, 12, -5, math.MinInt, math.MinInt + 5, math.MinInt + 6, math.MaxInt} {
		if got, e := entries.Compact(l, to); !same(got, api.Log{}) || e != api.ErrArg {
			t.Errorf("to %d: %+v %d", to, got, e)
		}
	}
	if entries.Conf(l) != nine {
		t.Errorf("Conf: %+v", entries.Conf(l))
	}
}

func TestCompactOfNothing(t *testing.T) {
	for _, l := range []api.Log{{}, log(0, 3), log(5, 2), log(top, top)} {
		if got, e := entries.Compact(l, l.Base); !same(got, l) || e != api.OK {
			t.Errorf("%+v to Base: %+v %d", l, got, e)
		}
		for _, to := range []int{l.Base - 1, l.Base + 1, -1, math.MinInt, math.MaxInt} {
			if got, e := entries.Compact(l, to); !same(got, api.Log{}) || e != api.ErrArg {
				t.Errorf("%+v to %d: %+v %d", l, to, got, e)
			}
		}
	}
	if got, e := entries.Compact(log(top, 1, 2, 3), top+2); got.Base != top+2 || got.BaseTerm != 3 || len(got.Entries) != 0 || e != api.OK {
		t.Errorf("to behind 2^40: %+v %d", got, e)
	}
}

// For all kinds of up to five entries: Conf, and the log compacted to each of them, also in two steps.
func TestConfOfAllKinds(t *testing.T) {
	for _, kinds := range sequences(5, 0, 1, 2) {
		l := log(3, 1, slices.Repeat([]int{1}, len(kinds))...)
		for i, kind := range kinds {
			l.Entries[i].Kind = kind
		}
		last := entries.Last(l)
		if got := entries.Conf(l); got != modelConf(l, last) {
			t.Fatalf("Conf of %+v: %+v", l, got)
		}
		for to := 3; to <= last; to++ {
			c, e := entries.Compact(l, to)
			if c.Conf != modelConf(l, to) || entries.Conf(c) != entries.Conf(l) || entries.Last(c) != last || e != api.OK {
				t.Fatalf("%+v to %d: %+v %d", l, to, c, e)
			}
			for further := to; further <= last; further++ {
				one, _ := entries.Compact(l, further)
				if two, e := entries.Compact(c, further); !same(one, two) || e != api.OK {
					t.Fatalf("%+v to %d, then to %d: %+v %d", l, to, further, two, e)
				}
			}
		}
	}
}

func TestConfCases(t *testing.T) {
	a, b, none := joint("a", 1), joint("b", 2), api.Joint{}
	plain, cmd := api.Entry{Term: 1, Conf: b}, api.Entry{Term: 1, Kind: 1, Conf: b}
	set := func(j api.Joint) api.Entry { return api.Entry{Term: 1, Kind: 2, Conf: j} }
	cases := []struct {
		conf api.Joint
		es   []api.Entry
		want api.Joint
	}{
		{none, nil, none}, {a, nil, a}, {a, []api.Entry{plain}, a}, {a, []api.Entry{cmd}, a}, {none, []api.Entry{cmd, plain}, none}, {a, []api.Entry{{Term: 1, Kind: 3, Conf: b}, {Term: 1, Kind: -2, Conf: b}}, a},
		{a, []api.Entry{set(b)}, b}, {none, []api.Entry{set(a)}, a}, {a, []api.Entry{set(none)}, none}, {a, []api.Entry{set(b), plain, cmd}, b}, {a, []api.Entry{plain, cmd, set(b)}, b},
		{none, []api.Entry{set(a), set(b)}, b}, {none, []api.Entry{set(b), set(a)}, a}, {none, []api.Entry{set(b), cmd, set(a), plain}, a}, {a, []api.Entry{set(b), set(b), set(none), cmd}, none},
	}
	for _, c := range cases {
		if got := entries.Conf(api.Log{Conf: c.conf, Entries: c.es}); got != c.want {
			t.Errorf("%+v with %+v: %+v", c.conf, c.es, got)
		}
	}
}

// P12.4

func TestNewerCases(t *testing.T) {
	least, most := math.MinInt, math.MaxInt
	cases := []struct {
		l          api.Log
		last, term int
		want       bool
	}{
		{log(5, 2, 2, 3), 7, 3, true}, {log(5, 2, 2, 3), 8, 3, true}, {log(5, 2, 2, 3), 6, 3, false}, {log(5, 2, 2, 3), most, 3, true}, {log(5, 2, 2, 3), least, 3, false}, {log(5, 2, 2, 3), 0, 3, false},
		{log(5, 2, 2, 3), 7, 4, true}, {log(5, 2, 2, 3), 6, 4, true}, {log(5, 2, 2, 3), 0, 4, true}, {log(5, 2, 2, 3), least, 4, true}, {log(5, 2, 2, 3), 1, most, true},
		{log(5, 2, 2, 3), 7, 2, false}, {log(5, 2, 2, 3), 8, 2, false}, {log(5, 2, 2, 3), most, 2, false}, {log(5, 2, 2, 3), most, 0, false}, {log(5, 2, 2, 3), most, least, false},
		{log(5, 2), 5, 2, true}, {log(5, 2), 6, 2, true}, {log(5, 2), 4, 2, false}, {log(5, 2), 4, 3, true}, {log(5, 2), 6, 1, false}, {log(5, 2), 6, 0, false},
		{api.Log{}, 0, 0, true}, {api.Log{}, 1, 0, true}, {api.Log{}, -1, 0, false}, {api.Log{}, 0, 1, true}, {api.Log{}, -1, 1, true}, {api.Log{}, 1, -1, false},
		{log(top, top, top), top + 1, top, true}, {log(top, top, top), top, top, false}, {log(top, top, top), 0, top + 1, true}, {log(top, top, top), most, top - 1, false},
	}
	for _, c := range cases {
		if got := entries.Newer(c.l, c.last, c.term); got != c.want {
			t.Errorf("%d of %d, and %+v: %v", c.last, c.term, c.l, got)
		}
	}
}

// What follows (that repeating a Merge changes nothing: see TestMergeAgainstModel)

// history gives a log of the terms whose entries tell all the terms up to them, compacted to the number base.
func history(base int, terms []int) api.Log {
	l := api.Log{Base: base}
	for i, term := range terms {
		data := make([]byte, i+1)
		for k := range data {
			data[k] = byte('0' + terms[k])
		}
		if i < base {
			l.BaseTerm = term
		} else {
			l.Entries = append(l.Entries, api.Entry{Term: term, Kind: api.EntryCmd, Data: string(data)})
		}
	}
	return l
}

// common returns how many terms agree at the start, and whether none agrees behind one that does not: only then may they be the logs of one range.
func common(a, b []int) (n int, may bool) {
	may = true
	for i := range min(len(a), len(b)) {
		if a[i] == b[i] {
			may = may && n == i
			n = i + 1
		}
	}
	return n, may
}

// agree fails unless the piece of one log, merged into another one, leaves the two the same up to last.
func agree(t *testing.T, from, into api.Log, terms []int, prev, most int) (ok bool) {
	term, _ := entries.Term(from, prev)
	es := entries.Slice(from, prev+1, most)
	m, last, ok := entries.Merge(into, prev, term, es)
	if !ok {
		return false
	}
	whole := history(0, terms)
	for i := m.Base; i <= last; i++ {
		gotTerm, is := entries.Term(m, i)
		wantTerm, _ := entries.Term(whole, i)
		got, _ := entries.At(m, i)
		want, _ := entries.At(whole, i)
		if i == m.Base {
			want = api.Entry{}
		}
		if !is || gotTerm != wantTerm || got != want {
			t.Fatalf("%+v of %+v, merged into %+v: %+v %d", es, from, into, m, last)
		}
	}
	if last != prev+len(es) || !entries.May(m) {
		t.Fatalf("%+v of %+v, merged into %+v: %+v %d", es, from, into, m, last)
	}
	return true
}

// All pairs of logs of one range with up to four entries, compacted to numbers up to which the two agree, and all pieces of one merged into the other.
func TestMergedLogsAgree(t *testing.T) {
	all := slices.DeleteFunc(sequences(4, 1, 2, 3), func(terms []int) bool { return !slices.IsSorted(terms) })
	merged, failed := 0, 0
	for _, a := range all {
		for _, b := range all {
			n, may := common(a, b)
			if !may {
				continue
			}
			for baseA := range n + 1 {
				for baseB := range n + 1 {
					from, into := history(baseA, a), history(baseB, b)
					for prev := baseA; prev <= len(a); prev++ {
						for most := range len(a) - prev + 1 {
							if agree(t, from, into, a, prev, most) {
								merged++
							} else {
								failed++
							}
						}
					}
				}
			}
		}
	}
	if merged < 1000 || failed < 1000 {
		t.Errorf("%d merges, %d that failed: too few", merged, failed)
	}
}
