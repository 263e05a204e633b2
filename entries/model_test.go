package entries_test

import (
	"maps"
	"math"
	"slices"
	"strconv"
	"testing"

	"antipode/api"
	"antipode/entries"
)

// The chapter's words over numbers and what has them, without places in a slice, and what the tests go through.

// joint gives a configuration that tells whose it is, and its number.
func joint(whose string, no int) api.Joint {
	return api.Joint{Old: api.Config{Voters: api.Set(whose[0]), Elect: no}, New: api.Config{Commit: no}, Two: no%2 == 0}
}

// entry gives an entry that tells whose it is, and its number, whatever its kind.
func entry(whose string, no, term, kind int) api.Entry {
	return api.Entry{Term: term, Kind: kind, Data: whose + strconv.Itoa(no), Conf: joint(whose, no)}
}

// follow gives entries of these terms, which follow the number prev, of all kinds in turn.
func follow(whose string, prev int, terms ...int) []api.Entry {
	var es []api.Entry
	for i, term := range terms {
		es = append(es, entry(whose, prev+1+i, term, i%3))
	}
	return es
}

// log gives a log of its own entries, which have these terms.
func log(base, baseTerm int, terms ...int) api.Log {
	return api.Log{Base: base, BaseTerm: baseTerm, Conf: joint("base", base), Entries: follow("own", base, terms...)}
}

// same tells whether two logs are the same one.
func same(a, b api.Log) bool {
	return a.Base == b.Base && a.BaseTerm == b.BaseTerm && a.Conf == b.Conf && slices.Equal(a.Entries, b.Entries)
}

// numbered gives the entries of l by their numbers, by P12.1.
func numbered(l api.Log) map[int]api.Entry {
	at := map[int]api.Entry{}
	no := l.Base
	for _, e := range l.Entries {
		no++
		at[no] = e
	}
	return at
}

// lined gives the entries of at that have the number no and those that follow it.
func lined(at map[int]api.Entry, no int) []api.Entry {
	var es []api.Entry
	for e, is := at[no]; is; e, is = at[no] {
		es = append(es, e)
		no++
	}
	return es
}

// modelMay tells whether l is valid: each entry is held against all that are ahead of it.
func modelMay(l api.Log) bool {
	may := l.Base >= 0 && l.Base <= 1099511627776 && l.BaseTerm >= 0 && l.BaseTerm <= 1099511627776
	for i, e := range l.Entries {
		may = may && e.Term >= 1 && e.Term <= 1099511627776 && e.Term >= l.BaseTerm
		for _, ahead := range l.Entries[:i] {
			may = may && ahead.Term <= e.Term
		}
	}
	return may
}

func modelLast(l api.Log) int {
	last := l.Base
	for no := range numbered(l) {
		last = max(last, no)
	}
	return last
}

func modelTerm(l api.Log, i int) (int, bool) {
	e, is := numbered(l)[i]
	if i == l.Base {
		return l.BaseTerm, true
	}
	return e.Term, is
}

func modelSlice(l api.Log, from, most int) []api.Entry {
	var es []api.Entry
	for _, e := range lined(numbered(l), max(from, l.Base+1)) {
		if len(es) < most {
			es = append(es, e)
		}
	}
	return es
}

func modelPush(l api.Log, e api.Entry) api.Log {
	at := numbered(l)
	at[modelLast(l)+1] = e
	l.Entries = lined(at, l.Base+1)
	return l
}

func modelMerge(l api.Log, prev, term int, es []api.Entry) (api.Log, int, bool) {
	here, is := modelTerm(l, prev)
	switch {
	case prev > modelLast(l), prev < 0, is && here != term, prev+len(es) < l.Base:
		return l, 0, false
	}
	at := numbered(l)
	for i, e := range es {
		no := prev + 1 + i
		mine, is := at[no]
		if no <= l.Base || is && mine.Term == e.Term {
			continue
		}
		maps.DeleteFunc(at, func(n int, _ api.Entry) bool { return n >= no })
		for k, e := range es[i:] {
			at[no+k] = e
		}
		break
	}
	l.Entries = lined(at, l.Base+1)
	return l, prev + len(es), true
}

// modelConf gives the configuration in force at the number to.
func modelConf(l api.Log, to int) api.Joint {
	last, c := l.Base, l.Conf
	for no, e := range numbered(l) {
		if e.Kind == 2 && no <= to && no > last {
			last, c = no, e.Conf
		}
	}
	return c
}

func modelCompact(l api.Log, to int) (api.Log, api.Errno) {
	term, is := modelTerm(l, to)
	if !is {
		return api.Log{}, api.ErrArg
	}
	return api.Log{Base: to, BaseTerm: term, Conf: modelConf(l, to), Entries: lined(numbered(l), to+1)}, api.OK
}

func modelNewer(l api.Log, last, term int) bool {
	own, _ := modelTerm(l, modelLast(l))
	return term > own || term == own && last >= modelLast(l)
}

// sequences lists all lists of up to n of the terms.
func sequences(n int, terms ...int) [][]int {
	out := [][]int{nil}
	for start := 0; n > 0; n-- {
		end := len(out)
		for _, l := range out[start:end] {
			for _, term := range terms {
				out = append(out, append(slices.Clone(l), term))
			}
		}
		start = end
	}
	return out
}

// sound lists valid logs: all that have up to three entries of these terms, behind bases of all kinds.
func sound(t *testing.T) []api.Log {
	var out []api.Log
	for _, base := range []int{0, 1, 3, 1 << 40} {
		for _, baseTerm := range []int{0, 1, 2} {
			for _, terms := range sequences(3, 1, 2, 3) {
				if l := log(base, baseTerm, terms...); slices.IsSorted(append([]int{baseTerm}, terms...)) {
					if !entries.May(l) {
						t.Fatalf("%+v is valid", l)
					}
					out = append(out, l)
				}
			}
		}
	}
	return out
}

// numbers lists the numbers about a log, and those that are far from it.
func numbers(l api.Log) []int {
	out := []int{-1, -2, 1 << 31, 1 << 32, l.Base + 1<<32, -1 << 32, 1 << 62, math.MaxInt - 1, math.MaxInt, math.MinInt, math.MinInt + 1, math.MinInt + l.Base, math.MinInt + l.Base + 1, -l.Base}
	for no := l.Base - 3; no <= l.Base+6; no++ {
		out = append(out, no)
	}
	return out
}

// TestAgainstModel holds every question against the chapter's words, for all small logs.
func TestAgainstModel(t *testing.T) {
	for _, l := range sound(t) {
		if entries.Last(l) != modelLast(l) || entries.Conf(l) != modelConf(l, modelLast(l)) {
			t.Fatalf("%+v: Last %d, Conf %+v", l, entries.Last(l), entries.Conf(l))
		}
		for _, i := range numbers(l) {
			term, is := entries.Term(l, i)
			if wantTerm, wantIs := modelTerm(l, i); term != wantTerm || is != wantIs {
				t.Fatalf("Term %d of %+v: %d %v", i, l, term, is)
			}
			e, is := entries.At(l, i)
			if wantEntry, wantIs := numbered(l)[i]; e != wantEntry || is != wantIs {
				t.Fatalf("At %d of %+v: %+v %v", i, l, e, is)
			}
			for _, most := range []int{math.MinInt, -1, 0, 1, 2, 3, 4, math.MaxInt} {
				if es := entries.Slice(l, i, most); !slices.Equal(es, modelSlice(l, i, most)) {
					t.Fatalf("Slice from %d of %+v, at most %d: %+v", i, l, most, es)
				}
			}
			c, e1 := entries.Compact(l, i)
			if want, e2 := modelCompact(l, i); !same(c, want) || e1 != e2 {
				t.Fatalf("Compact to %d of %+v: %+v %d", i, l, c, e1)
			}
			for _, term := range []int{math.MinInt, -1, 0, 1, 2, 3, 4, 1 << 40, math.MaxInt} {
				if is := entries.Newer(l, i, term); is != modelNewer(l, i, term) {
					t.Fatalf("Newer, %d of %d, than %+v: %v", i, term, l, is)
				}
			}
		}
		for term := -1; term <= 4; term++ {
			e := entry("new", 9, term, term)
			if got := entries.Push(l, e); !same(got, modelPush(l, e)) {
				t.Fatalf("Push of %+v: %+v", l, got)
			}
		}
	}
}

// TestMergeAgainstModel merges all short lists of entries into all small logs, and each one twice.
func TestMergeAgainstModel(t *testing.T) {
	lists := sequences(3, 1, 2, 3)
	lists = append(lists, []int{1, 1, 1, 1}, []int{1, 2, 2, 3, 3}, []int{2, 2, 2, 2, 2, 2}, []int{3, 3, 3, 3, 3, 3, 3})
	for _, l := range sound(t) {
		for prev := max(l.Base-4, -1); prev <= l.Base+4; prev++ {
			for _, terms := range lists {
				es := follow("their", prev, terms...)
				for term := range 4 {
					m, last, ok := entries.Merge(l, prev, term, es)
					want, wantLast, wantOk := modelMerge(l, prev, term, es)
					if !same(m, want) || last != wantLast || ok != wantOk {
						t.Fatalf("Merge, %d of %d, %v, into %+v: %+v %d %v", prev, term, terms, l, m, last, ok)
					}
					if again, lastAgain, okAgain := entries.Merge(m, prev, term, es); !same(again, m) || lastAgain != last || okAgain != ok {
						t.Fatalf("Merge, %d of %d, %v, into %+v once more: %+v %d %v", prev, term, terms, l, again, lastAgain, okAgain)
					}
				}
			}
		}
	}
}
