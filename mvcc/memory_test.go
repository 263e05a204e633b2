package mvcc_test

import (
	"slices"
	"testing"

	"antipode/api"
	"antipode/mvcc"
)

// R1 to R3, for cells that are valid and for those that are not.

// odd lists cells that are not valid, in many ways at once.
func odd() [][]api.Cell {
	few := []api.Cell{
		{},
		{Key: "k"},
		{Key: "k", Lock: api.Lock{By: ann, At: second, Data: "x"}},
		{Key: "l", Locked: true, Lock: api.Lock{By: ann, At: second, Drop: true, Data: "x"}},
		cell("k", has(third, "3"), has(first, "1"), has(second, "2")),
		cell("j", has(first, "1"), gone(first), has(first, "2")),
		locked("k", api.Lock{By: ann, At: first, Data: "x"}, api.Version{At: third, Drop: true, Data: "x"}, has(first, "1")),
	}
	var l [][]api.Cell
	for _, f := range broken() {
		l = append(l, f.cells)
	}
	for _, a := range few {
		l = append(l, []api.Cell{a})
		for _, b := range few {
			l = append(l, []api.Cell{a, b})
			for _, c := range few {
				l = append(l, []api.Cell{a, b, c})
			}
		}
	}
	return l
}

// guarded is cells with something behind the end of each of their slices, and all of that memory.
type guarded struct {
	cells, whole []api.Cell
	versions     [][]api.Version
}

const behind = 5 // what lies behind each end

func guard(c []api.Cell) (g guarded) {
	for _, x := range c {
		v := slices.Clone(x.Versions)
		for range behind {
			v = append(v, has(at(77, 7), "behind"))
		}
		g.versions = append(g.versions, v)
		x.Versions = v[:len(x.Versions)]
		g.whole = append(g.whole, x)
	}
	for range behind {
		g.whole = append(g.whole, cell("behind"))
	}
	g.cells = g.whole[:len(c)]
	return g
}

// is tells whether all is as guard(c) has made it.
func (g guarded) is(c []api.Cell) bool {
	for i, v := range g.versions {
		n := len(c[i].Versions)
		if !slices.Equal(v[:n], c[i].Versions) || slices.ContainsFunc(v[n:], func(v api.Version) bool { return v != has(at(77, 7), "behind") }) {
			return false
		}
		if len(g.cells[i].Versions) != n {
			return false
		}
	}
	for _, x := range g.whole[len(c):] {
		if !same([]api.Cell{x}, []api.Cell{cell("behind")}) {
			return false
		}
	}
	return same(g.cells, c)
}

// spoil writes over all memory of cells, also over what lies behind their ends.
func spoil(c []api.Cell) {
	for _, x := range c[:cap(c)] {
		spoilVersions(x.Versions)
	}
	for i := range c[:cap(c)] {
		c[:cap(c)][i] = cell("spoilt")
	}
}

func spoilVersions(l []api.Version) {
	for i := range l[:cap(l)] {
		l[:cap(l)][i] = has(at(66, 6), "spoilt")
	}
}

// copied gives c in new memory.
func copied(c []api.Cell) []api.Cell {
	c = slices.Clone(c)
	for i, x := range c {
		c[i].Versions = slices.Clone(x.Versions)
	}
	return c
}

// change is a call that answers cells.
type change struct {
	name string
	call func(c []api.Cell) []api.Cell
}

func changes() []change {
	l := []change{
		{"Lock of the first key", func(c []api.Cell) []api.Cell { return mvcc.Lock(c, api.Write{}, api.Lock{By: bob}) }},
		{"Lock of a key", func(c []api.Cell) []api.Cell { return mvcc.Lock(c, api.Write{Key: "k", Data: "w"}, api.Lock{By: bob}) }},
		{"Lock of a key between", func(c []api.Cell) []api.Cell {
			return mvcc.Lock(c, api.Write{Key: "kk", Drop: true}, api.Lock{By: bob})
		}},
		{"Lock of the last key", func(c []api.Cell) []api.Cell { return mvcc.Lock(c, api.Write{Key: "\xff\xff"}, api.Lock{By: bob}) }},
		{"Settle of nothing", func(c []api.Cell) []api.Cell { return mvcc.Settle(c, api.Try{Node: 9}, true) }},
	}
	for _, by := range []api.Try{ann, bob, {}} {
		l = append(l,
			change{"Settle, yes", func(c []api.Cell) []api.Cell { return mvcc.Settle(c, by, true) }},
			change{"Settle, no", func(c []api.Cell) []api.Cell { return mvcc.Settle(c, by, false) }})
	}
	for _, below := range []api.Stamp{at(0, 0), first, second, third, at(9, 9)} {
		l = append(l, change{"Trim", func(c []api.Cell) []api.Cell { return mvcc.Trim(c, below) }})
	}
	return l
}

// P8.5

func TestChangesAreNewMemory(t *testing.T) {
	for _, c := range slices.Concat(single(), several(), odd(), [][]api.Cell{sound()}) {
		for _, f := range changes() {
			g := guard(c)
			got := f.call(g.cells)
			want := copied(got)
			if !g.is(c) {
				t.Fatalf("%s of %v changed them: %v", f.name, c, g)
			}
			other := f.call(g.cells)
			spoil(other)
			if !g.is(c) || !same(got, want) {
				t.Fatalf("%s of %v shares memory with them, or with another answer", f.name, c)
			}
			spoil(g.cells)
			if !same(got, want) {
				t.Fatalf("%s of %v hangs on them", f.name, c)
			}
			for i := range got {
				spoilVersions(got[i].Versions)
				if !same(got[i+1:], want[i+1:]) {
					t.Fatalf("%s of %v: the versions of the cell %d share memory with those of another one", f.name, c, i)
				}
			}
		}
	}
}

func TestQuestionsChangeNothing(t *testing.T) {
	for _, c := range slices.Concat(single(), several(), odd(), [][]api.Cell{sound()}) {
		g := guard(c)
		mvcc.May(g.cells)
		for _, key := range []string{"", "j", "k", "kk", "l", "\xff\xff"} {
			mvcc.Get(g.cells, key, second)
			mvcc.Held(g.cells, key)
		}
		mvcc.Mine(g.cells, ann)
		mvcc.Blocks(g.cells, everything, second)
		l, _ := mvcc.Scan(g.cells, everything, second, 9)
		want := slices.Clone(l)
		if !g.is(c) {
			t.Fatalf("a question changed %v: %v", c, g)
		}
		other, _ := mvcc.Scan(g.cells, everything, second, 9)
		clear(other[:cap(other)])
		spoil(g.cells)
		if !slices.Equal(l, want) {
			t.Fatalf("Scan of %v shares memory: %v", c, l)
		}
	}
}

// Whatever the cells are, no call panics, and beside a false or an error there is nothing else.
func TestOddCells(t *testing.T) {
	for _, c := range odd() {
		for _, m := range moments() {
			for _, s := range spans() {
				if l, is := mvcc.Blocks(c, s, m); !is && l != (api.Lock{}) {
					t.Fatalf("Blocks of %v: %v", c, l)
				}
				for most := range 3 {
					if l, e := mvcc.Scan(c, s, m, most-1); e != api.OK && len(l) != 0 || len(l) > max(most-1, 0) {
						t.Fatalf("Scan of %v for %d: %v %d", c, most-1, l, e)
					}
				}
			}
			for _, key := range append([]string{"j", "m"}, names...) {
				if data, there := mvcc.Get(c, key, m); !there && data != "" {
					t.Fatalf("Get of %v: %q", c, data)
				}
				if l, is := mvcc.Held(c, key); !is && l != (api.Lock{}) {
					t.Fatalf("Held of %v: %v", c, l)
				}
			}
		}
	}
}
