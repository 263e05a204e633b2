package mvcc_test

import (
	"math"
	"slices"
	"testing"

	"antipode/api"
	"antipode/mvcc"
)

func at(wall, tie int64) api.Stamp { return api.Stamp{Wall: wall, Tie: tie} }

func has(s api.Stamp, data string) api.Version { return api.Version{At: s, Data: data} }

func gone(s api.Stamp) api.Version { return api.Version{At: s, Drop: true} }

// cell is a key that is not locked.
func cell(key string, l ...api.Version) api.Cell { return api.Cell{Key: key, Versions: l} }

// locked is a key that is.
func locked(key string, l api.Lock, versions ...api.Version) api.Cell {
	return api.Cell{Key: key, Versions: versions, Locked: true, Lock: l}
}

// The tries that hold locks, which differ in one field alone.
var (
	ann = api.Try{Node: 1, Life: 2, Seq: 3, Attempt: 4}
	bob = api.Try{Node: 1, Life: 2, Seq: 3, Attempt: 5}
)

// others lists tries that hold nothing, unless it is the zero Lock: the zero one, which cells without a lock have, too, and those that are almost ann.
func others() []api.Try {
	return []api.Try{
		{}, {Node: 2, Life: 2, Seq: 3, Attempt: 4}, {Node: 1, Life: 1, Seq: 3, Attempt: 4}, {Node: 1, Life: 2, Seq: 4, Attempt: 4},
		{Node: 1, Life: 2, Seq: 3, Attempt: 3}, {Node: -1, Life: 2, Seq: 3, Attempt: 4},
	}
}

// The stamps of versions: two of them differ in Tie alone, and the last one has the least Tie.
var first, second, third = at(5, 1), at(5, 3), at(7, -2)

// moments lists, rising, the stamps of versions, those just below and just above them, and the ends.
func moments() []api.Stamp {
	return []api.Stamp{
		at(math.MinInt64, math.MinInt64), at(0, 0), at(4, 9), at(5, math.MinInt64), at(5, 0), first, at(5, 2), second, at(5, 4), at(5, math.MaxInt64),
		at(6, -9), at(6, 9), at(7, -3), third, at(7, -1), at(7, 3), at(8, -9), at(math.MaxInt64, math.MaxInt64),
	}
}

// histories lists all that versions at first, second and third may be: each there or not, with Drop or without.
func histories() [][]api.Version {
	l := [][]api.Version{nil}
	for i, s := range []api.Stamp{first, second, third} {
		for _, h := range l[:len(l):len(l)] {
			h = h[:len(h):len(h)]
			l = append(l, append(h, has(s, "123"[i:i+1])), append(h, gone(s)))
		}
	}
	return append(l, []api.Version{has(first, "")})
}

// locks lists locks of both tries, with Drop and without: below all versions, between two, at each of them and above all.
func locks() []api.Lock {
	var l []api.Lock
	for i, by := range []api.Try{ann, bob} {
		for _, s := range []api.Stamp{at(4, 9), first, at(5, 2), second, at(7, -3), third, at(7, -1)} {
			l = append(l, api.Lock{By: by, Home: 3 + i, At: s, Data: "new"}, api.Lock{By: by, Home: 3 + i, At: s, Drop: true})
		}
	}
	return append(l, api.Lock{By: ann, At: second}, api.Lock{})
}

// single lists all that the key "k" may be, by histories and locks.
func single() [][]api.Cell {
	var l [][]api.Cell
	for _, h := range histories() {
		if len(h) > 0 {
			l = append(l, []api.Cell{cell("k", h...)})
		}
		for _, lock := range locks() {
			l = append(l, []api.Cell{locked("k", lock, h...)})
		}
	}
	return l
}

// The keys of several; each one is a prefix of the next one, or there is none between the two.
var names = []string{"", "k", "k\x00", "l"}

// several lists cells of up to four keys, each of which is one of a few, or not there.
func several() [][]api.Cell {
	few := []api.Cell{
		cell("", has(first, "1")),
		cell("", has(first, "1"), has(second, "2"), gone(third)),
		cell("", gone(second)),
		locked("", api.Lock{By: ann, Home: 1, At: second, Data: "A"}),
		locked("", api.Lock{By: bob, Home: 2, At: first, Drop: true}, has(first, "1"), has(third, "3")),
		locked("", api.Lock{By: ann, Home: 3, At: third, Drop: true}, has(second, "2")),
	}
	l := [][]api.Cell{nil}
	for _, key := range names {
		for _, c := range l[:len(l):len(l)] {
			for _, x := range few {
				x.Key = key
				l = append(l, append(c[:len(c):len(c)], x))
			}
		}
	}
	return l
}

// spans lists all pairs of the keys of several, of keys just beside them and of those beyond: spans that are empty, turned about, of one key and of all.
func spans() []api.Span {
	bounds := []string{"", "\x00", "j\xff", "k", "k\x00", "k\x00\x00", "k\x01", "l", "l\x00", "\xff"}
	var l []api.Span
	for _, lo := range bounds {
		for _, hi := range bounds {
			l = append(l, api.Span{Lo: lo, Hi: hi})
		}
	}
	return l
}

// P8.1

// sound gives cells that are valid, with all that the clauses of 'valid' speak of.
func sound() []api.Cell {
	return []api.Cell{
		cell("", has(at(-3, 0), ""), gone(at(-3, 1)), has(at(2, -9), "b")),
		locked("a", api.Lock{By: ann, Home: 2, At: at(4, 4), Data: "x"}, gone(at(1, 1)), has(at(4, 4), "a"), gone(at(4, 5))),
		locked("a\x00", api.Lock{By: ann, Home: 2, At: at(4, 4), Drop: true}),
		locked("ab", api.Lock{}, has(at(1, 1), "a"), has(at(1, 2), "a")),
		cell("b", gone(at(math.MinInt64, math.MaxInt64)), has(at(math.MaxInt64, math.MinInt64), "b")),
		cell("\xff", gone(at(0, 0))),
	}
}

// fault is a clause of 'valid' that is broken in one place alone.
type fault struct {
	name  string
	cells []api.Cell
}

// broken gives cells that but for one place are sound.
func broken() []fault {
	var l []fault
	put := func(name string, change func(c []api.Cell)) {
		c := sound()
		change(c)
		l = append(l, fault{name, c})
	}
	for i, x := range sound() {
		if i > 0 {
			put("two keys are equal", func(c []api.Cell) { c[i].Key = c[i-1].Key })
			put("two cells are turned about", func(c []api.Cell) { c[i], c[i-1] = c[i-1], c[i] })
		}
		for k, v := range x.Versions {
			if k > 0 {
				put("two stamps are equal", func(c []api.Cell) { c[i].Versions[k].At = c[i].Versions[k-1].At })
				put("two versions are turned about", func(c []api.Cell) {
					c[i].Versions[k], c[i].Versions[k-1] = c[i].Versions[k-1], c[i].Versions[k]
				})
			}
			if v.Drop {
				put("a version with Drop has Data", func(c []api.Cell) { c[i].Versions[k].Data = "x" })
			}
		}
		if x.Locked && x.Lock.Drop {
			put("a Lock with Drop has Data", func(c []api.Cell) { c[i].Lock.Data = "\x00" })
		}
		if !x.Locked {
			put("nothing is there", func(c []api.Cell) { c[i].Versions = nil })
			put("no version is there", func(c []api.Cell) { c[i].Versions = []api.Version{} })
			for _, lock := range oneField() {
				put("a Lock is not zero", func(c []api.Cell) { c[i].Lock = lock })
			}
		}
	}
	return l
}

// oneField lists Locks of which one field alone is not zero.
func oneField() []api.Lock {
	return []api.Lock{
		{By: api.Try{Node: 1}}, {By: api.Try{Life: 1}}, {By: api.Try{Seq: 1}}, {By: api.Try{Attempt: -1}},
		{Home: 1}, {At: at(1, 0)}, {At: at(0, -1)}, {Drop: true}, {Data: "x"},
	}
}

func TestMay(t *testing.T) {
	all := append(append(single(), several()...), nil, []api.Cell{}, sound())
	for _, lock := range oneField() {
		all = append(all, []api.Cell{locked("", lock)})
	}
	for _, c := range all {
		if !mvcc.May(c) {
			t.Errorf("%v are valid", c)
		}
	}
	for _, f := range broken() {
		if mvcc.May(f.cells) {
			t.Errorf("%s: %v are not valid", f.name, f.cells)
		}
	}
}

func TestMayOfOneCell(t *testing.T) {
	for _, c := range []api.Cell{
		{}, {Key: "a"}, {Versions: []api.Version{}}, {Lock: api.Lock{By: ann}},
		{Locked: true, Lock: api.Lock{Drop: true, Data: "x"}},
		cell("a", api.Version{Drop: true, Data: "x"}),
		cell("a", has(at(1, 0), ""), has(at(1, 0), "")),
		cell("a", has(at(2, 1), ""), has(at(1, 2), "")),
		cell("a", has(at(1, 2), ""), has(at(1, 1), "")),
		locked("a", api.Lock{By: ann}, has(at(2, 0), "a"), has(at(1, 0), "a")),
		locked("a", api.Lock{By: ann}, api.Version{Drop: true, Data: "x"}),
	} {
		if mvcc.May([]api.Cell{c}) {
			t.Errorf("%v is not valid", c)
		}
	}
}

// The order is that of bytes, in which a prefix comes first, and that of no alphabet.
func TestMayComparesBytes(t *testing.T) {
	l := []string{"", "\x00", "\x00\x00", "\x01", "B", "B\x00", "Ba", "a", "b", "\u00e9", "\xff", "\xff\x00"}
	for i, a := range l {
		for k, b := range l {
			if mvcc.May([]api.Cell{cell(a, has(first, "")), cell(b, has(first, ""))}) != (i < k) {
				t.Errorf("the keys %q and %q", a, b)
			}
		}
	}
}

// P8.2

func TestGetCases(t *testing.T) {
	c := []api.Cell{
		cell("", has(at(1, 0), "empty")),
		cell("k", has(at(5, 1), "a"), has(at(5, 3), "b"), gone(at(7, 0)), has(at(9, 0), "")),
		locked("k\x00", api.Lock{By: ann, At: at(2, 0), Data: "x"}),
		locked("m", api.Lock{By: ann, At: at(2, 0), Data: "x"}, gone(at(1, 0)), has(at(3, 0), "m")),
	}
	cases := []struct {
		key   string
		at    api.Stamp
		data  string
		there bool
	}{
		{"", at(1, 0), "empty", true}, {"", at(0, 9), "", false}, {"", at(1, -1), "", false}, {"", at(99, 0), "empty", true},
		{"k", at(4, 99), "", false}, {"k", at(5, 0), "", false}, {"k", at(5, 1), "a", true}, {"k", at(5, 2), "a", true},
		{"k", at(5, 3), "b", true}, {"k", at(5, 4), "b", true}, {"k", at(6, -99), "b", true}, {"k", at(7, -1), "b", true},
		{"k", at(7, 0), "", false}, {"k", at(8, 99), "", false}, {"k", at(9, -1), "", false}, {"k", at(9, 0), "", true}, {"k", at(99, 0), "", true},
		{"k\x00", at(2, 0), "", false}, {"k\x00", at(99, 0), "", false},
		{"m", at(1, 0), "", false}, {"m", at(2, 0), "", false}, {"m", at(3, 0), "m", true},
		{"\x00", at(99, 0), "", false}, {"j", at(99, 0), "", false}, {"k\x01", at(99, 0), "", false}, {"l", at(99, 0), "", false}, {"ma", at(99, 0), "", false},
	}
	for _, x := range cases {
		if data, there := mvcc.Get(c, x.key, x.at); data != x.data || there != x.there {
			t.Errorf("Get of %q at %v: %q %v", x.key, x.at, data, there)
		}
	}
}

func TestGetOfAll(t *testing.T) {
	for _, c := range append(single(), several()...) {
		p := write(c)
		for _, key := range append([]string{"\x00", "j", "kk", "m"}, names...) {
			for _, s := range moments() {
				data, there := mvcc.Get(c, key, s)
				if want, is := p.get(key, s); data != want || there != is {
					t.Fatalf("Get of %q at %v of %v: %q %v", key, s, c, data, there)
				}
			}
		}
	}
}

func TestNoCells(t *testing.T) {
	for _, c := range [][]api.Cell{nil, {}, make([]api.Cell, 0, 3)} {
		for _, s := range spans() {
			if l, is := mvcc.Blocks(c, s, at(9, 0)); l != (api.Lock{}) || is {
				t.Errorf("Blocks: %v %v", l, is)
			}
			for _, most := range []int{math.MinInt, -1, 0, 1} {
				if l, e := mvcc.Scan(c, s, at(9, 0), most); len(l) != 0 || e != api.OK {
					t.Errorf("Scan: %v %d", l, e)
				}
			}
			if data, there := mvcc.Get(c, s.Lo, at(9, 0)); data != "" || there {
				t.Errorf("Get: %q %v", data, there)
			}
			if l, is := mvcc.Held(c, s.Lo); l != (api.Lock{}) || is {
				t.Errorf("Held: %v %v", l, is)
			}
		}
		for _, by := range append(others(), ann) {
			if mvcc.Mine(c, by) || len(mvcc.Settle(c, by, true)) != 0 || len(mvcc.Settle(c, by, false)) != 0 {
				t.Errorf("%v has something", by)
			}
		}
		if d := mvcc.Trim(c, at(9, 0)); len(d) != 0 {
			t.Errorf("Trim: %v", d)
		}
		if d := mvcc.Lock(c, api.Write{Key: "a", Data: "x"}, api.Lock{By: ann}); !same(d, []api.Cell{locked("a", api.Lock{By: ann, Data: "x"})}) {
			t.Errorf("Lock: %v", d)
		}
	}
}

// scans checks Scan of c, with all that most may be.
func scans(t *testing.T, c []api.Cell, s api.Span, m api.Stamp, want []api.Pair) {
	t.Helper()
	n := len(want)
	for _, most := range []int{math.MinInt, -1, 0, 1, n - 1, n, n + 1, math.MaxInt} {
		l, e := mvcc.Scan(c, s, m, most)
		if n > max(most, 0) {
			if len(l) != 0 || e != api.ErrLong {
				t.Errorf("Scan of %q at %v for %d of %v: %v %d", s, m, most, c, l, e)
			}
		} else if !slices.Equal(l, want) || e != api.OK {
			t.Errorf("Scan of %q at %v for %d of %v: %v %d", s, m, most, c, l, e)
		}
	}
}

func TestScanCases(t *testing.T) {
	c := []api.Cell{
		cell("", has(at(1, 0), "empty")),
		cell("a", has(at(1, 0), "A"), gone(at(3, 0))),
		locked("a\x00", api.Lock{By: ann, At: at(1, 0), Data: "x"}),
		cell("b", has(at(2, 0), ""), has(at(4, 0), "B")),
	}
	scans(t, c, api.Span{Lo: "", Hi: "z"}, at(0, 9), nil)
	scans(t, c, api.Span{Lo: "", Hi: "z"}, at(1, 0), []api.Pair{{Key: "", Data: "empty"}, {Key: "a", Data: "A"}})
	scans(t, c, api.Span{Lo: "", Hi: "z"}, at(2, 9), []api.Pair{{Key: "", Data: "empty"}, {Key: "a", Data: "A"}, {Key: "b", Data: ""}})
	scans(t, c, api.Span{Lo: "", Hi: "z"}, at(3, 0), []api.Pair{{Key: "", Data: "empty"}, {Key: "b", Data: ""}})
	scans(t, c, api.Span{Lo: "\x00", Hi: "b"}, at(2, 0), []api.Pair{{Key: "a", Data: "A"}})
	scans(t, c, api.Span{Lo: "a\x00", Hi: "b\x00"}, at(4, 0), []api.Pair{{Key: "b", Data: "B"}})
	scans(t, c, api.Span{Lo: "a\x00", Hi: "b"}, at(4, 0), nil)
	scans(t, c, api.Span{Lo: "b", Hi: "b"}, at(4, 0), nil)
	scans(t, c, api.Span{Lo: "b", Hi: ""}, at(4, 0), nil)
	scans(t, c, api.Span{Lo: "c", Hi: "z"}, at(4, 0), nil)
}

func TestScanOfAll(t *testing.T) {
	for _, c := range append(several(), sound()) {
		p := write(c)
		for _, m := range []api.Stamp{at(5, 0), first, at(5, 2), second, at(6, 0), third} {
			for _, s := range spans() {
				want := p.scan(s, m)
				if got, e := mvcc.Scan(c, s, m, len(want)); !slices.Equal(got, want) || e != api.OK {
					t.Fatalf("Scan of %q at %v of %v: %v %d", s, m, c, got, e)
				}
				if len(want) == 0 {
					continue
				}
				if got, e := mvcc.Scan(c, s, m, len(want)-1); len(got) != 0 || e != api.ErrLong {
					t.Fatalf("Scan of %q at %v for one too few of %v: %v %d", s, m, c, got, e)
				}
			}
		}
	}
}

func TestScanForEachMost(t *testing.T) {
	for _, c := range [][]api.Cell{sound(), {cell("k", has(first, "1"))}, {cell("k", gone(first))}} {
		for _, m := range moments() {
			scans(t, c, everything, m, write(c).scan(everything, m))
		}
	}
}

func TestBlocksCases(t *testing.T) {
	late := api.Lock{By: ann, Home: 1, At: at(5, 3), Data: "late"}
	soon := api.Lock{By: bob, Home: 2, At: at(5, 1), Drop: true}
	c := []api.Cell{
		cell("", has(at(1, 0), "empty")),
		locked("a", late, has(at(1, 0), "A")),
		locked("b", soon),
		locked("c", soon, gone(at(5, 2))),
		locked("d", api.Lock{}),
	}
	none := api.Lock{}
	cases := []struct {
		s    api.Span
		at   api.Stamp
		want api.Lock
		is   bool
	}{
		{api.Span{Lo: "", Hi: "z"}, at(5, 3), late, true}, {api.Span{Lo: "", Hi: "z"}, at(5, 4), late, true}, {api.Span{Lo: "", Hi: "z"}, at(6, -9), late, true},
		{api.Span{Lo: "", Hi: "z"}, at(5, 2), soon, true}, {api.Span{Lo: "", Hi: "z"}, at(5, 1), soon, true},
		{api.Span{Lo: "", Hi: "z"}, at(5, 0), none, true}, {api.Span{Lo: "", Hi: "z"}, at(4, 9), none, true}, {api.Span{Lo: "", Hi: "z"}, at(0, 0), none, true},
		{api.Span{Lo: "", Hi: "z"}, at(0, -1), none, false}, {api.Span{Lo: "", Hi: "d"}, at(5, 0), none, false},
		{api.Span{Lo: "a", Hi: "a\x00"}, at(5, 3), late, true}, {api.Span{Lo: "a", Hi: "a\x00"}, at(5, 2), none, false},
		{api.Span{Lo: "a\x00", Hi: "b"}, at(9, 0), none, false}, {api.Span{Lo: "", Hi: "a"}, at(9, 0), none, false}, {api.Span{Lo: "a\x00", Hi: "c"}, at(9, 0), soon, true},
		{api.Span{Lo: "a", Hi: "a"}, at(9, 0), none, false}, {api.Span{Lo: "z", Hi: "a"}, at(9, 0), none, false}, {api.Span{Lo: "e", Hi: "z"}, at(9, 0), none, false},
	}
	for _, x := range cases {
		if l, is := mvcc.Blocks(c, x.s, x.at); l != x.want || is != x.is {
			t.Errorf("Blocks in %q at %v: %v %v", x.s, x.at, l, is)
		}
	}
}

func TestBlocksOfAll(t *testing.T) {
	check := func(c []api.Cell, s api.Span, m api.Stamp) {
		l, is := mvcc.Blocks(c, s, m)
		if want, ought := write(c).blocks(s, m); l != want || is != ought {
			t.Fatalf("Blocks in %q at %v of %v: %v %v", s, m, c, l, is)
		}
	}
	for _, c := range append(several(), sound()) {
		for _, s := range spans() {
			check(c, s, second)
		}
	}
	for _, c := range append(single(), sound()) {
		for _, m := range moments() {
			check(c, everything, m)
		}
	}
}

// P8.3

func TestLockCases(t *testing.T) {
	c := []api.Cell{
		cell("b", has(first, "1"), gone(second)),
		locked("d", api.Lock{By: bob, Home: 5, At: third, Drop: true}, has(first, "1")),
	}
	given := api.Lock{By: ann, Home: 2, At: second, Drop: true, Data: "not this"}
	data := api.Lock{By: ann, Home: 2, At: second, Data: "x"}
	void := api.Lock{By: ann, Home: 2, At: second}
	drop := api.Lock{By: ann, Home: 2, At: second, Drop: true}
	cases := []struct {
		w    api.Write
		l    api.Lock
		want []api.Cell
	}{
		{api.Write{Key: "b", Data: "x"}, given, []api.Cell{locked("b", data, c[0].Versions...), c[1]}},
		{api.Write{Key: "b"}, given, []api.Cell{locked("b", void, c[0].Versions...), c[1]}},
		{api.Write{Key: "b", Drop: true}, void, []api.Cell{locked("b", drop, c[0].Versions...), c[1]}},
		{api.Write{Key: "b", Drop: true, Data: "x"}, data, []api.Cell{locked("b", drop, c[0].Versions...), c[1]}},
		{api.Write{Key: "d", Data: "x"}, given, []api.Cell{c[0], locked("d", data, c[1].Versions...)}},
		{api.Write{Key: "d"}, api.Lock{}, []api.Cell{c[0], locked("d", api.Lock{}, c[1].Versions...)}},
		{api.Write{Key: "", Data: "x"}, given, []api.Cell{locked("", data), c[0], c[1]}},
		{api.Write{Key: "a", Drop: true, Data: "x"}, given, []api.Cell{locked("a", drop), c[0], c[1]}},
		{api.Write{Key: "b\x00", Data: "x"}, given, []api.Cell{c[0], locked("b\x00", data), c[1]}},
		{api.Write{Key: "c", Data: "x"}, given, []api.Cell{c[0], locked("c", data), c[1]}},
		{api.Write{Key: "e", Data: "x"}, given, []api.Cell{c[0], c[1], locked("e", data)}},
	}
	for _, x := range cases {
		if d := mvcc.Lock(c, x.w, x.l); !same(d, x.want) {
			t.Errorf("Lock of %v: %v", x.w, d)
		}
	}
}

func TestLockOfAll(t *testing.T) {
	for _, c := range append(append(single(), several()...), sound()) {
		for _, key := range append([]string{"\x00", "kk", "\xff\xff"}, names...) {
			for _, w := range []api.Write{{Key: key}, {Key: key, Data: "w"}, {Key: key, Drop: true}, {Key: key, Drop: true, Data: "w"}} {
				p := write(c)
				p.put(w, api.Lock{By: bob, Home: 7, At: at(6, 6), Drop: !w.Drop, Data: "l"})
				d := mvcc.Lock(c, w, api.Lock{By: bob, Home: 7, At: at(6, 6), Drop: !w.Drop, Data: "l"})
				if !same(d, p.cells()) || !mvcc.May(d) {
					t.Fatalf("Lock of %v in %v: %v", w, c, d)
				}
			}
		}
	}
}

func TestHeldAndMine(t *testing.T) {
	for _, c := range append(append(single(), several()...), sound()) {
		p := write(c)
		for _, key := range append([]string{"\x00", "a", "kk", "\xff\xff"}, names...) {
			l, is := mvcc.Held(c, key)
			if want, ought := p.held(key); l != want || is != ought {
				t.Fatalf("Held of %q of %v: %v %v", key, c, l, is)
			}
		}
		for _, by := range append(others(), ann, bob) {
			if mvcc.Mine(c, by) != p.mine(by) {
				t.Fatalf("Mine of %v of %v", by, c)
			}
		}
	}
}

// A key that is locked, and be it by the zero Lock, is held; one that is not has the zero Lock, too, and is none of the zero Try's.
func TestTheZeroLock(t *testing.T) {
	c := []api.Cell{cell("a", has(first, "1")), locked("b", api.Lock{})}
	if l, is := mvcc.Held(c, "a"); l != (api.Lock{}) || is {
		t.Errorf("Held of a key that is not locked: %v %v", l, is)
	}
	if l, is := mvcc.Held(c, "b"); l != (api.Lock{}) || !is {
		t.Errorf("Held of a key that is: %v %v", l, is)
	}
	if mvcc.Mine(c[:1], api.Try{}) || !mvcc.Mine(c, api.Try{}) {
		t.Errorf("Mine of the zero Try")
	}
	if d := mvcc.Settle(c, api.Try{}, true); !same(d, []api.Cell{c[0], cell("b", api.Version{})}) {
		t.Errorf("Settle of the zero Try: %v", d)
	}
	if d := mvcc.Settle(c, api.Try{}, false); !same(d, c[:1]) {
		t.Errorf("Settle of the zero Try, not decided so: %v", d)
	}
}

// P8.4

func TestSettleCases(t *testing.T) {
	old := []api.Version{has(first, "1"), has(second, "2"), gone(third)}
	cases := []struct {
		name string
		l    api.Lock
		want []api.Version
	}{
		{"below all", api.Lock{By: ann, At: at(5, 0), Data: "x"}, []api.Version{has(at(5, 0), "x"), old[0], old[1], old[2]}},
		{"at the first", api.Lock{By: ann, At: first, Data: "x"}, []api.Version{has(first, "x"), old[1], old[2]}},
		{"between, by Tie", api.Lock{By: ann, At: at(5, 2), Drop: true}, []api.Version{old[0], gone(at(5, 2)), old[1], old[2]}},
		{"at one between", api.Lock{By: ann, At: second, Drop: true}, []api.Version{old[0], gone(second), old[2]}},
		{"between, by Wall", api.Lock{By: ann, At: at(6, 0)}, []api.Version{old[0], old[1], has(at(6, 0), ""), old[2]}},
		{"at the last", api.Lock{By: ann, At: third, Data: "x"}, []api.Version{old[0], old[1], has(third, "x")}},
		{"above all", api.Lock{By: ann, At: at(7, -1), Data: "x"}, append(old[:3:3], has(at(7, -1), "x"))},
	}
	for _, x := range cases {
		c := []api.Cell{cell("j", old...), locked("k", x.l, old...), locked("l", x.l), locked("m", api.Lock{By: bob, At: first}, old...)}
		v := api.Version{At: x.l.At, Drop: x.l.Drop, Data: x.l.Data}
		if d := mvcc.Settle(c, ann, true); !same(d, []api.Cell{c[0], cell("k", x.want...), cell("l", v), c[3]}) {
			t.Errorf("%s, yes: %v", x.name, d)
		}
		if d := mvcc.Settle(c, ann, false); !same(d, []api.Cell{c[0], cell("k", old...), c[3]}) {
			t.Errorf("%s, no: %v", x.name, d)
		}
		for _, by := range others() {
			if !same(mvcc.Settle(c, by, true), c) || !same(mvcc.Settle(c, by, false), c) {
				t.Errorf("%s: %v holds nothing", x.name, by)
			}
		}
	}
}

func TestSettleOfAll(t *testing.T) {
	for _, c := range append(append(single(), several()...), sound()) {
		for _, by := range append(others(), ann, bob) {
			for _, yes := range []bool{true, false} {
				p := write(c)
				p.settle(by, yes)
				d := mvcc.Settle(c, by, yes)
				if !same(d, p.cells()) || !mvcc.May(d) || mvcc.Mine(d, by) {
					t.Fatalf("Settle of %v %v of %v: %v", by, yes, c, d)
				}
			}
		}
	}
}

func TestTrimCases(t *testing.T) {
	c := []api.Cell{
		cell("a", has(first, "1"), has(second, "2"), has(third, "3")),
		cell("b", has(first, "1"), gone(second), has(third, "3")),
		cell("c", has(second, "2"), gone(third)),
		locked("d", api.Lock{By: ann, At: at(1, 0), Data: "x"}, gone(first)),
		locked("e", api.Lock{By: ann, At: at(1, 0), Drop: true}),
		cell("f", gone(first)),
	}
	a, b, d := c[0].Versions, c[1].Versions, locked("d", c[3].Lock)
	cases := []struct {
		below api.Stamp
		want  []api.Cell
	}{
		{at(math.MinInt64, 0), c}, {at(4, 9), c}, {at(5, 0), c},
		{first, []api.Cell{c[0], c[1], c[2], d, c[4]}},
		{at(5, 2), []api.Cell{c[0], c[1], c[2], d, c[4]}},
		{second, []api.Cell{cell("a", a[1:]...), cell("b", b[2:]...), c[2], d, c[4]}},
		{at(6, 9), []api.Cell{cell("a", a[1:]...), cell("b", b[2:]...), c[2], d, c[4]}},
		{at(7, -3), []api.Cell{cell("a", a[1:]...), cell("b", b[2:]...), c[2], d, c[4]}},
		{third, []api.Cell{cell("a", a[2:]...), cell("b", b[2:]...), d, c[4]}},
		{at(math.MaxInt64, 0), []api.Cell{cell("a", a[2:]...), cell("b", b[2:]...), d, c[4]}},
	}
	for _, x := range cases {
		if got := mvcc.Trim(c, x.below); !same(got, x.want) {
			t.Errorf("Trim below %v: %v", x.below, got)
		}
	}
}

func TestTrimOfAll(t *testing.T) {
	for _, c := range append(append(single(), several()...), sound()) {
		for _, below := range moments() {
			p := write(c)
			p.trim(below)
			d := mvcc.Trim(c, below)
			if !same(d, p.cells()) || !mvcc.May(d) {
				t.Fatalf("Trim below %v of %v: %v", below, c, d)
			}
		}
	}
}

// What follows

func TestTrimChangesNothingFromThereOn(t *testing.T) {
	for _, c := range append(append(single(), several()...), sound()) {
		for i, below := range moments() {
			d := mvcc.Trim(c, below)
			for _, m := range moments()[i:] {
				for _, key := range names {
					was, there := mvcc.Get(c, key, m)
					if data, is := mvcc.Get(d, key, m); data != was || is != there {
						t.Fatalf("Get of %q at %v of %v: %q %v; trimmed below %v: %q %v", key, m, c, was, there, below, data, is)
					}
				}
			}
		}
	}
}

// Examples

func TestLockThenSettle(t *testing.T) {
	for _, key := range names {
		for i, m := range moments() {
			c := mvcc.Settle(mvcc.Lock(nil, api.Write{Key: key, Data: "x"}, api.Lock{By: ann, At: m}), ann, true)
			for k, s := range moments() {
				if data, there := mvcc.Get(c, key, s); there != (k >= i) || there != (data == "x") {
					t.Errorf("written at %v, Get at %v: %q %v", m, s, data, there)
				}
			}
		}
	}
}

// Keys and versions come in any order, and lie in theirs.
func TestLocksInAnyOrder(t *testing.T) {
	var want []api.Cell
	for _, key := range names {
		want = append(want, cell(key, has(first, key), gone(second), has(third, key)))
	}
	for _, keys := range orders([]int{0, 1, 2, 3}) {
		for _, times := range orders([]int{0, 1, 2}) {
			var c []api.Cell
			for _, k := range times {
				for _, i := range keys {
					c = mvcc.Lock(c, api.Write{Key: names[i], Drop: k == 1, Data: names[i]}, api.Lock{By: ann, At: []api.Stamp{first, second, third}[k]})
				}
				c = mvcc.Settle(c, ann, true)
			}
			if !same(c, want) {
				t.Errorf("the keys %v, the times %v: %v", keys, times, c)
			}
		}
	}
}

// orders lists all orders of l.
func orders(l []int) [][]int {
	if len(l) == 0 {
		return [][]int{nil}
	}
	var all [][]int
	for i, n := range l {
		for _, rest := range orders(slices.Delete(slices.Clone(l), i, i+1)) {
			all = append(all, append([]int{n}, rest...))
		}
	}
	return all
}
