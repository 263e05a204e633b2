package wire_test

import (
	"bytes"
	"encoding/binary"
	"math"
	"math/big"
	"math/rand"
	"reflect"
	"testing"

	"antipode/api"
)

// The chapter's words with the library's varints: values go to bytes word by word, and come back by a reader that takes also what is not written so, whose values then must go to the same bytes.

// writer has the bytes so far.
type writer struct{ bytes.Buffer }

func (w *writer) n(vs ...int) {
	for _, v := range vs {
		w.Write(binary.AppendVarint(nil, int64(v)))
	}
}

func (w *writer) t(s string) {
	w.Write(binary.AppendUvarint(nil, uint64(len(s))))
	w.WriteString(s)
}

func (w *writer) f(is bool) {
	w.WriteByte(map[bool]byte{true: 1}[is])
}

func (w *writer) s(m api.Stamp) {
	for _, v := range []int64{m.Wall, m.Tie} {
		up := new(big.Int).Lsh(big.NewInt(1), 63)
		w.Write(up.Add(up, big.NewInt(v)).FillBytes(make([]byte, 8)))
	}
}

func (w *writer) y(y api.Try) {
	w.n(y.Node, y.Life, y.Seq, y.Attempt)
}

func (w *writer) outcomes(l []api.Outcome) {
	w.n(len(l))
	for _, o := range l {
		w.y(o.By)
		w.s(o.At)
		w.f(o.Yes)
	}
}

func modelCmd(c api.Cmd) []byte {
	var w writer
	w.WriteByte(1)
	w.n(c.Kind, c.Epoch, c.Node, c.Home)
	w.y(c.By)
	w.s(c.At)
	w.n(int(c.Wall))
	w.f(c.Yes)
	w.n(len(c.Spans))
	for _, s := range c.Spans {
		w.t(s.Lo)
		w.t(s.Hi)
	}
	w.n(len(c.Writes))
	for _, x := range c.Writes {
		w.t(x.Key)
		w.f(x.Drop)
		w.t(x.Data)
	}
	return w.Bytes()
}

func modelPart(p api.Part) []byte {
	var w writer
	w.WriteByte(2)
	w.n(p.Epoch, p.Holder)
	w.s(p.Floor)
	w.n(int(p.Closed), int(p.Low))
	w.n(len(p.Cells))
	for _, c := range p.Cells {
		w.t(c.Key)
		w.n(len(c.Versions))
		for _, v := range c.Versions {
			w.s(v.At)
			w.f(v.Drop)
			w.t(v.Data)
		}
		w.f(c.Locked)
		if c.Locked {
			w.y(c.Lock.By)
			w.n(c.Lock.Home)
			w.s(c.Lock.At)
			w.f(c.Lock.Drop)
			w.t(c.Lock.Data)
		}
	}
	w.outcomes(p.Records)
	w.outcomes(p.Done)
	return w.Bytes()
}

func modelJoint(j api.Joint) []byte {
	var w writer
	for _, c := range []api.Config{j.Old, j.New} {
		for _, s := range []api.Set{c.Voters, c.Witnesses, c.Learners} {
			w.Write([]byte{byte(s / 256), byte(s % 256)})
		}
		w.n(c.Elect, c.Commit)
	}
	w.f(j.Two)
	return w.Bytes()
}

// reader has the bytes that are left. It panics where there is no field.
type reader struct{ *bytes.Reader }

func must[T any](v T, err error) T {
	if err != nil {
		panic(err)
	}
	return v
}

func (r reader) some(n int) []byte {
	b := make([]byte, n)
	for i := range b {
		b[i] = must(r.ReadByte())
	}
	return b
}

func (r reader) n() int {
	return int(must(binary.ReadVarint(r)))
}

func (r reader) t() string {
	n := must(binary.ReadUvarint(r))
	if n > uint64(r.Len()) {
		panic("no text")
	}
	return string(r.some(int(n)))
}

func (r reader) f() bool {
	return must(r.ReadByte()) != 0
}

func (r reader) s() api.Stamp {
	half := func() int64 {
		return int64(binary.BigEndian.Uint64(r.some(8)) ^ 1<<63)
	}
	wall := half()
	return api.Stamp{Wall: wall, Tie: half()}
}

func (r reader) y() api.Try {
	l := []int{r.n(), r.n(), r.n(), r.n()}
	return api.Try{Node: l[0], Life: l[1], Seq: l[2], Attempt: l[3]}
}

func (r reader) each(do func()) {
	n := r.n()
	if n < 0 || n > 65536 {
		panic("no list")
	}
	for range n {
		do()
	}
}

func (r reader) outcomes() (l []api.Outcome) {
	r.each(func() {
		o := api.Outcome{By: r.y()}
		o.At = r.s()
		o.Yes = r.f()
		l = append(l, o)
	})
	return l
}

func (r reader) cmd() (c api.Cmd) {
	r.some(1)
	c.Kind, c.Epoch, c.Node, c.Home = r.n(), r.n(), r.n(), r.n()
	c.By = r.y()
	c.At = r.s()
	c.Wall = int64(r.n())
	c.Yes = r.f()
	r.each(func() {
		lo := r.t()
		c.Spans = append(c.Spans, api.Span{Lo: lo, Hi: r.t()})
	})
	r.each(func() {
		w := api.Write{Key: r.t()}
		w.Drop = r.f()
		w.Data = r.t()
		c.Writes = append(c.Writes, w)
	})
	return c
}

func (r reader) cell() api.Cell {
	c := api.Cell{Key: r.t()}
	r.each(func() {
		v := api.Version{At: r.s()}
		v.Drop = r.f()
		v.Data = r.t()
		c.Versions = append(c.Versions, v)
	})
	if c.Locked = r.f(); c.Locked {
		c.Lock.By = r.y()
		c.Lock.Home = r.n()
		c.Lock.At = r.s()
		c.Lock.Drop = r.f()
		c.Lock.Data = r.t()
	}
	return c
}

func (r reader) part() (p api.Part) {
	r.some(1)
	p.Epoch, p.Holder = r.n(), r.n()
	p.Floor = r.s()
	p.Closed, p.Low = int64(r.n()), int64(r.n())
	r.each(func() { p.Cells = append(p.Cells, r.cell()) })
	p.Records = r.outcomes()
	p.Done = r.outcomes()
	return p
}

func (r reader) joint() (j api.Joint) {
	for _, c := range []*api.Config{&j.Old, &j.New} {
		for _, s := range []*api.Set{&c.Voters, &c.Witnesses, &c.Learners} {
			*s = api.Set(binary.BigEndian.Uint16(r.some(2)))
		}
		c.Elect, c.Commit = r.n(), r.n()
	}
	j.Two = r.f()
	return j
}

// modelTake gives the value whose bytes b begins with, and how many they are, if there is one.
func modelTake[T any](b []byte, read func(reader) T, write func(T) []byte) (v T, n int, is bool) {
	defer func() {
		if recover() != nil {
			var zero T
			v, n, is = zero, 0, false
		}
	}()
	v = read(reader{bytes.NewReader(b)})
	n = len(write(v))
	if !bytes.HasPrefix(b, write(v)) {
		panic("written another way")
	}
	return v, n, true
}

// dice gives values by chance, whose fields are small ones, or ones of all kinds.
type dice struct {
	*rand.Rand
	small bool
}

func (d dice) n() int {
	if d.small {
		return d.Intn(3) - 1
	}
	if d.Intn(3) == 0 {
		return int(numbers()[d.Intn(len(numbers()))].v)
	}
	return int(int64(d.Uint64()) >> d.Intn(64))
}

func (d dice) f() bool {
	return d.Intn(2) == 0
}

func (d dice) t() string {
	if d.small {
		return "ababa"[:d.Intn(3)]
	}
	b := make([]byte, d.Intn(9)*d.Intn(9)*d.Intn(5))
	d.Read(b)
	return string(b)
}

func (d dice) s() api.Stamp {
	return api.Stamp{Wall: int64(d.n()), Tie: int64(d.n())}
}

func (d dice) y() api.Try {
	return api.Try{Node: d.n(), Life: d.n(), Seq: d.n(), Attempt: d.n()}
}

func (d dice) lock() api.Lock {
	return api.Lock{By: d.y(), Home: d.n(), At: d.s(), Drop: d.f(), Data: d.t()}
}

func listBy[T any](d dice, most int, one func() T) []T {
	var l []T
	for range d.Intn(most + 1) {
		l = append(l, one())
	}
	return l
}

func (d dice) cmd() api.Cmd {
	return api.Cmd{
		Kind: d.n(), Epoch: d.n(), Node: d.n(), Home: d.n(), By: d.y(), At: d.s(), Wall: int64(d.n()), Yes: d.f(),
		Spans:  listBy(d, 3, func() api.Span { return api.Span{Lo: d.t(), Hi: d.t()} }),
		Writes: listBy(d, 3, func() api.Write { return api.Write{Key: d.t(), Drop: d.f(), Data: d.t()} }),
	}
}

func (d dice) part() api.Part {
	outcome := func() api.Outcome { return api.Outcome{By: d.y(), At: d.s(), Yes: d.f()} }
	version := func() api.Version { return api.Version{At: d.s(), Drop: d.f(), Data: d.t()} }
	cell := func() api.Cell {
		c := api.Cell{Key: d.t(), Versions: listBy(d, 3, version), Locked: d.f()}
		if c.Locked {
			c.Lock = d.lock()
		}
		return c
	}
	return api.Part{
		Epoch: d.n(), Holder: d.n(), Floor: d.s(), Closed: int64(d.n()), Low: int64(d.n()),
		Cells: listBy(d, 3, cell), Records: listBy(d, 2, outcome), Done: listBy(d, 2, outcome),
	}
}

func (d dice) joint() api.Joint {
	config := func() api.Config {
		return api.Config{Voters: api.Set(d.n()), Witnesses: api.Set(d.n()), Learners: api.Set(d.n()), Elect: d.n(), Commit: d.n()}
	}
	return api.Joint{Old: config(), New: config(), Two: d.f()}
}

// bend gives b with something changed by chance.
func (d dice) bend(b []byte) []byte {
	b = bytes.Clone(b)
	i, k := d.Intn(len(b)+1), d.Intn(len(b)+1)
	i, k = min(i, k), max(i, k)
	odd := []byte{0, 1, 2, 3, 4, 0x7f, 0x80, 0x81, 0xff, byte(d.Intn(256))}
	c := odd[d.Intn(len(odd))]
	switch d.Intn(7) {
	case 0:
		return b[:i]
	case 1:
		return append(b, c)
	case 2:
		return append(b[:i], b[k:]...)
	case 3:
		return bytes.Join([][]byte{b[:k], b[i:]}, nil)
	case 4:
		return bytes.Join([][]byte{b[:i], {c}, b[i:]}, nil)
	case 5:
		b[min(i, len(b)-1)] ^= 1 << d.Intn(8)
	default:
		b[min(i, len(b)-1)] = c
	}
	return b
}

// against holds what goes to bytes and back against the model, and what goes back from bytes that were bent.
func against[T any](t *testing.T, s subject[T], one func(dice) T, read func(reader) T, write func(T) []byte, rest bool) {
	t.Helper()
	good := 0
	for i := range 20000 {
		d := dice{rand.New(rand.NewSource(int64(i))), i%2 == 0}
		v := one(d)
		b := s.put(v)
		if !bytes.Equal(b, write(v)) {
			t.Fatalf("%s: %+v: %x, not %x", s.name, v, b, write(v))
		}
		if back, e := s.take(b); e != api.OK || !reflect.DeepEqual(back, v) || !s.same(back, v) {
			t.Fatalf("%s: %+v: %x goes back to %+v %d", s.name, v, b, back, e)
		}
		for range 6 {
			b = d.bend(b)
			want, n, is := modelTake(b, read, write)
			is = is && (rest || n == len(b))
			got, e := s.take(b)
			if is != (e == api.OK) || !is && (e != api.ErrForm || !reflect.ValueOf(got).IsZero()) || is && !reflect.DeepEqual(got, want) {
				t.Fatalf("%s: %x goes back to %+v %d, not %+v %v", s.name, b, got, e, want, is)
			}
			if is {
				good++
			} else if len(b) == 0 {
				break
			}
		}
	}
	if good < 1000 {
		t.Errorf("%s: only %d bent ones are some", s.name, good)
	}
}

// P14.1, P14.2

func TestCmdsAgainstModel(t *testing.T) {
	against(t, cmds(), dice.cmd, reader.cmd, modelCmd, false)
}

func TestPartsAgainstModel(t *testing.T) {
	against(t, parts(), dice.part, reader.part, modelPart, false)
}

func TestJointsAgainstModel(t *testing.T) {
	against(t, joints(), dice.joint, reader.joint, modelJoint, true)
}

// single fails unless values have the same bytes just if they are the same.
func single[T any](t *testing.T, s subject[T], one func(dice) T) {
	t.Helper()
	seen := map[string]T{}
	d := dice{rand.New(rand.NewSource(1)), true}
	keep := func(v T) {
		b := string(s.put(v))
		if other, is := seen[b]; is && !s.same(v, other) {
			t.Errorf("%s: %+v and %+v have the same bytes", s.name, v, other)
		}
		seen[b] = v
	}
	for range 3000 {
		v := one(d)
		keep(v)
	}
	for _, p := range s.places {
		v := s.base()
		for _, x := range samples(p.of(&v)) {
			v := s.base()
			x.set(p.of(&v))
			keep(v)
		}
	}
}

// What follows

func TestNoOtherValueHasTheSameBytes(t *testing.T) {
	single(t, cmds(), dice.cmd)
	single(t, parts(), dice.part)
	single(t, joints(), dice.joint)
	// Texts that would be the same ones if nothing stood between them.
	spans := func(l ...string) (c api.Cmd) {
		for i := 0; i < len(l); i += 2 {
			c.Spans = append(c.Spans, api.Span{Lo: l[i], Hi: l[i+1]})
		}
		return c
	}
	seen := map[string]bool{}
	for _, c := range []api.Cmd{spans(), spans("", ""), spans("", "", "", ""), spans("ab", "c"), spans("a", "bc"), spans("abc", ""), spans("", "abc"), spans("a", "b", "c", ""), spans("a", "", "b", "c")} {
		seen[string(cmds().put(c))] = true
	}
	if len(seen) != 9 {
		t.Errorf("only %d of 9", len(seen))
	}
}

// Numbers at both ends of what they may be go back as they are.
func TestNumbersAtTheEnds(t *testing.T) {
	for _, v := range []int{math.MinInt, math.MinInt + 1, -1, 0, 1, math.MaxInt - 1, math.MaxInt} {
		c := api.Cmd{Kind: v, Epoch: v, Node: v, Home: v, By: api.Try{Node: v, Life: v, Seq: v, Attempt: v}, At: api.Stamp{Wall: int64(v), Tie: int64(v)}, Wall: int64(v)}
		if back, e := cmds().take(cmds().put(c)); e != api.OK || !reflect.DeepEqual(back, c) {
			t.Errorf("%d: %+v %d", v, back, e)
		}
	}
}
