package wire_test

import (
	"bytes"
	"math/rand"
	"reflect"
	"slices"
	"testing"

	"antipode/api"
	"antipode/wire"
)

// R1 to R4, for bytes and values of all kinds.

// guarded gives b with something behind its end, and tells whether all of it is still so.
func guarded(b []byte) (g []byte, is func() bool) {
	whole := slices.Concat(b, []byte("something behind the end"))
	want := bytes.Clone(whole)
	return whole[:len(b)], func() bool { return bytes.Equal(whole, want) }
}

// roomy gives l with something behind its end.
func roomy[T any](l []T, behind T) []T {
	return append(slices.Clone(l), behind, behind, behind)[:len(l)]
}

// full gives all of l, also what lies behind its end.
func full[T any](l []T) []T {
	return slices.Clone(l[:cap(l)])
}

// spoil writes over all of l, also what lies behind its end.
func spoil[T any](l []T, by T) {
	for i := range l[:cap(l)] {
		l[:cap(l)][i] = by
	}
}

func spoilCmd(c api.Cmd) {
	spoil(c.Spans, api.Span{Lo: "spoilt", Hi: "spoilt"})
	spoil(c.Writes, api.Write{Key: "spoilt", Drop: true, Data: "spoilt"})
}

func spoilPart(p api.Part) {
	for _, c := range p.Cells {
		spoil(c.Versions, api.Version{At: api.Stamp{Wall: 66}, Drop: true, Data: "spoilt"})
	}
	spoil(p.Cells, api.Cell{Key: "spoilt", Versions: []api.Version{{Data: "spoilt"}}, Locked: true})
	spoil(p.Records, api.Outcome{By: api.Try{Seq: 66}, Yes: true})
	spoil(p.Done, api.Outcome{By: api.Try{Seq: 77}, Yes: true})
}

// roomyCmd gives c with lists that have something behind their ends, and a copy of all of that.
func roomyCmd(c api.Cmd) (r, all api.Cmd) {
	c.Spans = roomy(c.Spans, api.Span{Lo: "behind"})
	c.Writes = roomy(c.Writes, api.Write{Key: "behind"})
	all = c
	all.Spans, all.Writes = full(c.Spans), full(c.Writes)
	return c, all
}

func roomyPart(p api.Part) (r, all api.Part) {
	p.Cells = roomy(p.Cells, api.Cell{Key: "behind"})
	for i := range p.Cells {
		p.Cells[i].Versions = roomy(p.Cells[i].Versions, api.Version{Data: "behind"})
	}
	p.Records = roomy(p.Records, api.Outcome{Yes: true})
	p.Done = roomy(p.Done, api.Outcome{By: api.Try{Seq: 1}})
	return p, allOfPart(p)
}

func allOfCmd(c api.Cmd) api.Cmd {
	c.Spans, c.Writes = full(c.Spans), full(c.Writes)
	return c
}

func allOfPart(p api.Part) api.Part {
	p.Cells, p.Records, p.Done = full(p.Cells), full(p.Records), full(p.Done)
	for i := range p.Cells {
		p.Cells[i].Versions = full(p.Cells[i].Versions)
	}
	return p
}

// values gives values whose lists have no element, one, and several.
func values[T any](one func(dice) T, more ...T) []T {
	for i := range 200 {
		more = append(more, one(dice{rand.New(rand.NewSource(int64(i))), i%2 == 0}))
	}
	return more
}

// putFresh fails unless what v goes to is new memory, and v with all that lies behind its lists stays as it is.
func putFresh[T any](t *testing.T, s subject[T], v T, copyOf func(T) T) {
	t.Helper()
	all := copyOf(v)
	first := s.put(v)
	want := bytes.Clone(first)
	second := s.put(v)
	spoil(append(second, 0), 66)
	spoil(second, 66)
	if !bytes.Equal(first, want) || !bytes.Equal(s.put(v), want) {
		t.Fatalf("%s: what %+v goes to hangs on what it went to before", s.name, v)
	}
	if !s.same(v, v) || !reflect.DeepEqual(copyOf(v), all) {
		t.Fatalf("%s: %+v was changed", s.name, v)
	}
}

// takeFresh fails unless what goes back from bytes is new memory, and the bytes and what lies behind them stay as they are.
func takeFresh[T any](t *testing.T, s subject[T], v T, spoilIt func(T)) {
	t.Helper()
	b, is := guarded(s.put(v))
	first, e := s.take(b)
	second, _ := s.take(b)
	spoilIt(second)
	if third, _ := s.take(b); e != api.OK || !is() || !s.same(first, v) || !s.same(third, v) {
		t.Fatalf("%s: %+v goes back to %+v %d, then to %+v", s.name, v, first, e, third)
	}
	spoil(b, 66)
	if !s.same(first, v) {
		t.Fatalf("%s: %+v hangs on the bytes that it came from", s.name, first)
	}
	for n := range len(b) {
		cut, is := guarded(b[:n])
		if s.take(cut); !is() {
			t.Fatalf("%s: %x was changed", s.name, cut)
		}
	}
}

func TestPutIsNewMemory(t *testing.T) {
	c, _ := fullCmd()
	for _, v := range values(dice.cmd, api.Cmd{}, c) {
		v, all := roomyCmd(v)
		if putFresh(t, cmds(), v, allOfCmd); !reflect.DeepEqual(allOfCmd(v), all) {
			t.Fatalf("%+v was changed", v)
		}
	}
	p, _ := fullPart()
	for _, v := range values(dice.part, api.Part{}, p) {
		v, all := roomyPart(v)
		if putFresh(t, parts(), v, allOfPart); !reflect.DeepEqual(allOfPart(v), all) {
			t.Fatalf("%+v was changed", v)
		}
	}
	for _, v := range values(dice.joint) {
		putFresh(t, joints(), v, func(j api.Joint) api.Joint { return j })
	}
}

func TestTakeIsNewMemory(t *testing.T) {
	c, _ := fullCmd()
	for _, v := range values(dice.cmd, api.Cmd{}, c) {
		takeFresh(t, cmds(), v, spoilCmd)
	}
	p, _ := fullPart()
	for _, v := range values(dice.part, api.Part{}, p) {
		takeFresh(t, parts(), v, spoilPart)
	}
	for _, v := range values(dice.joint) {
		takeFresh(t, joints(), v, func(api.Joint) {})
	}
}

// No two lists of one answer share memory, also where they have the same elements.
func TestListsOfOneAnswer(t *testing.T) {
	o := []api.Outcome{{By: api.Try{Seq: 1}}, {Yes: true}, {}}
	v := []api.Version{{Data: "x"}, {Drop: true}, {}}
	b := wire.Part(api.Part{Cells: []api.Cell{{Versions: v}, {Versions: v}, {Versions: v}}, Records: o, Done: o})
	p, e := wire.TakePart(b)
	if e != api.OK {
		t.Fatal(e)
	}
	spoil(append(p.Records, api.Outcome{}), api.Outcome{Yes: true})
	spoil(p.Records, api.Outcome{By: api.Try{Node: 66}})
	spoil(append(p.Cells[1].Versions, api.Version{}), api.Version{Data: "spoilt"})
	spoil(p.Cells[1].Versions, api.Version{Data: "spoilt"})
	if !slices.Equal(p.Done, o) || !slices.Equal(p.Cells[0].Versions, v) || !slices.Equal(p.Cells[2].Versions, v) {
		t.Errorf("%+v", p)
	}
}

// An empty list goes back as nil, and both have the same bytes.
func TestNilAndEmpty(t *testing.T) {
	nils := api.Part{Cells: []api.Cell{{}}}
	empty := api.Part{Cells: []api.Cell{{Versions: []api.Version{}}}, Records: []api.Outcome{}, Done: make([]api.Outcome, 0, 9)}
	if !bytes.Equal(wire.Part(nils), wire.Part(empty)) {
		t.Error("a part's empty lists")
	}
	if p, e := wire.TakePart(wire.Part(empty)); e != api.OK || !reflect.DeepEqual(p, nils) {
		t.Errorf("%#v %d", p, e)
	}
	if p, e := wire.TakePart(wire.Part(api.Part{Cells: []api.Cell{}})); e != api.OK || p.Cells != nil {
		t.Errorf("%#v %d", p, e)
	}
	none := api.Cmd{Spans: []api.Span{}, Writes: make([]api.Write, 0, 9)}
	if !bytes.Equal(wire.Cmd(api.Cmd{}), wire.Cmd(none)) {
		t.Error("a command's empty lists")
	}
	if c, e := wire.TakeCmd(wire.Cmd(none)); e != api.OK || c.Spans != nil || c.Writes != nil {
		t.Errorf("%#v %d", c, e)
	}
	for _, b := range [][]byte{nil, {}} {
		none1, e1 := wire.TakeCmd(b)
		none2, e2 := wire.TakePart(b)
		j, n, e3 := wire.TakeJoint(b)
		if e1 != api.ErrForm || e2 != api.ErrForm || e3 != api.ErrForm || n != 0 || j != (api.Joint{}) || !reflect.DeepEqual(none1, api.Cmd{}) || !reflect.DeepEqual(none2, api.Part{}) {
			t.Errorf("%#v: %d %d %d", b, e1, e2, e3)
		}
	}
}

// Whatever the bytes are, a call ends, and what it tells goes to the same bytes.
func TestAnyBytes(t *testing.T) {
	tried := func(b []byte) {
		if c, e := wire.TakeCmd(b); e != api.ErrForm && !bytes.Equal(wire.Cmd(c), b) {
			t.Fatalf("%x: %+v %d", b, c, e)
		}
		if p, e := wire.TakePart(b); e != api.ErrForm && !bytes.Equal(wire.Part(p), b) {
			t.Fatalf("%x: %+v %d", b, p, e)
		}
		if j, n, e := wire.TakeJoint(b); e != api.ErrForm && !bytes.Equal(wire.Joint(j), b[:n]) {
			t.Fatalf("%x: %+v %d %d", b, j, n, e)
		}
	}
	r := rand.New(rand.NewSource(1))
	for i := range 60000 {
		b := make([]byte, r.Intn(120))
		for k := range b {
			b[k] = byte(r.Intn(1 << (1 + i%8)))
		}
		if len(b) > 0 {
			b[0] = byte(i % 3)
		}
		tried(b)
	}
	for c := range 256 {
		tried(bytes.Repeat([]byte{byte(c)}, 1000))
		for d := range 256 {
			tried([]byte{byte(c), byte(d)})
		}
	}
}
