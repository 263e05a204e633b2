package wire_test

import (
	"reflect"
	"strings"
	"testing"

	"antipode/api"
	"antipode/wire"
)

// full gives values of which each field is another one, and their bytes.
func fullCmd() (api.Cmd, string) {
	c := api.Cmd{
		Kind: 3, Epoch: -4, Node: 5, Home: 64, By: api.Try{Node: 6, Life: 7, Seq: 300, Attempt: 9},
		At: api.Stamp{Wall: 1, Tie: -1}, Wall: -65, Yes: true,
		Spans:  []api.Span{{Lo: "a", Hi: "bc"}, {Lo: "d"}},
		Writes: []api.Write{{Key: "k", Data: "\x00"}, {Drop: true}, {Key: "l", Drop: true, Data: "ee"}},
	}
	return c, "\x01" + "\x06\x07\x0a\x80\x01" + "\x0c\x0e\xd8\x04\x12" +
		"\x80\x00\x00\x00\x00\x00\x00\x01" + "\x7f\xff\xff\xff\xff\xff\xff\xff" + "\x81\x01" + "\x01" +
		"\x04" + "\x01a\x02bc" + "\x01d\x00" +
		"\x06" + "\x01k\x00\x01\x00" + "\x00\x01\x00" + "\x01l\x01\x02ee"
}

func fullPart() (api.Part, string) {
	p := api.Part{
		Epoch: 1, Holder: 2, Floor: api.Stamp{Wall: 2, Tie: 3}, Closed: 64, Low: -3,
		Cells: []api.Cell{
			{Key: "a", Versions: []api.Version{{At: api.Stamp{Wall: 4}, Data: "x"}, {At: api.Stamp{Tie: 5}, Drop: true}}},
			{Key: "bb", Locked: true, Lock: api.Lock{By: api.Try{Node: 3, Life: 4, Seq: 5, Attempt: 6}, Home: 7, At: api.Stamp{Wall: 6}, Drop: true, Data: "y"}},
			{},
		},
		Records: []api.Outcome{{By: api.Try{Node: 8, Life: 9, Seq: 10, Attempt: 11}, At: api.Stamp{Tie: 7}, Yes: true}, {}},
		Done:    []api.Outcome{{By: api.Try{Attempt: -1}}},
	}
	wall := func(n string) string { return "\x80\x00\x00\x00\x00\x00\x00" + n }
	return p, "\x02" + "\x02\x04" + wall("\x02") + wall("\x03") + "\x80\x01" + "\x05" +
		"\x06" +
		"\x01a" + "\x04" + wall("\x04") + wall("\x00") + "\x00" + "\x01x" + wall("\x00") + wall("\x05") + "\x01" + "\x00" + "\x00" +
		"\x02bb" + "\x00" + "\x01" + "\x06\x08\x0a\x0c" + "\x0e" + wall("\x06") + wall("\x00") + "\x01" + "\x01y" +
		"\x00" + "\x00" + "\x00" +
		"\x04" + "\x10\x12\x14\x16" + wall("\x00") + wall("\x07") + "\x01" + "\x00\x00\x00\x00" + zero + "\x00" +
		"\x02" + "\x00\x00\x00\x01" + zero + "\x00"
}

func fullJoint() (api.Joint, string) {
	j := api.Joint{
		Old: api.Config{Voters: 0x8001, Witnesses: 2, Learners: 0x300, Elect: -1, Commit: 64},
		New: api.Config{Voters: 6, Witnesses: 0xffff, Learners: 7, Elect: 3, Commit: 2},
		Two: true,
	}
	return j, "\x80\x01" + "\x00\x02" + "\x03\x00" + "\x01" + "\x80\x01" +
		"\x00\x06" + "\xff\xff" + "\x00\x07" + "\x06" + "\x04" + "\x01"
}

// goes fails unless v goes to these bytes, and back.
func goes[T any](t *testing.T, s subject[T], what string, v T, bytes string) {
	t.Helper()
	if got := s.put(v); string(got) != bytes {
		t.Errorf("%s, %s: %.99x, not %.99x", s.name, what, got, bytes)
	}
	back, e := s.take([]byte(bytes))
	if e != api.OK || !reflect.DeepEqual(back, v) {
		t.Errorf("%s, %s: %.99x goes back to %.99v %d", s.name, what, bytes, back, e)
	}
}

// none fails unless there is no value that goes to these bytes.
func none[T any](t *testing.T, s subject[T], what string, bytes string) {
	t.Helper()
	var zero T
	if v, e := s.take([]byte(bytes)); e != api.ErrForm || !reflect.DeepEqual(v, zero) {
		t.Errorf("%s, %s: %.99x: %.99v %d", s.name, what, bytes, v, e)
	}
}

// P14.1, P14.2

func TestExamples(t *testing.T) {
	c, b := fullCmd()
	goes(t, cmds(), "a full one", c, b)
	p, b := fullPart()
	goes(t, parts(), "a full one", p, b)
	j, b := fullJoint()
	goes(t, joints(), "a full one", j, b)
	goes(t, cmds(), "a zero one", api.Cmd{}, "\x01"+strings.Repeat("\x00", 8)+zero+"\x00\x00\x00\x00")
	goes(t, parts(), "a zero one", api.Part{}, "\x02"+"\x00\x00"+zero+"\x00\x00\x00\x00\x00")
	goes(t, joints(), "a zero one", api.Joint{}, strings.Repeat("\x00", 17))
	if n := len(wire.Cmd(api.Cmd{})); n != 29 {
		t.Errorf("a zero command has %d bytes", n)
	}
}

// fields tries each field of a T by itself, with all else as in the base value.
func fields[T any](t *testing.T, s subject[T]) {
	goes(t, s, "base", s.base(), s.bytes)
	for _, p := range s.places {
		v := s.base()
		all := samples(p.of(&v))
		for _, x := range all {
			x.set(p.of(&v))
			goes(t, s, p.name, v, splice(s.bytes, p.at, len(all[0].bytes), x.bytes))
		}
		for _, b := range faulty(p.of(&v)) {
			none(t, s, p.name, splice(s.bytes, p.at, len(all[0].bytes), b))
		}
	}
}

func TestEachField(t *testing.T) {
	fields(t, cmds())
	fields(t, parts())
	fields(t, joints())
}

// A cell that is not Locked has no bytes of its Lock, which is zero when it goes back.
func TestNotLocked(t *testing.T) {
	s := parts()
	open := splice(s.bytes, 42, 24, "\x00")
	v := basePart()
	v.Cells[0].Locked = false
	goes(t, s, "not Locked", v, open)
	for _, p := range s.places {
		if !strings.HasPrefix(p.name, "Lock.") {
			continue
		}
		for _, x := range samples(p.of(&v)) {
			v := basePart()
			v.Cells[0].Locked = false
			x.set(p.of(&v))
			if got := wire.Part(v); string(got) != open {
				t.Errorf("not Locked, %s: %x", p.name, got)
			}
		}
	}
	for _, b := range faulty(new(bool)) {
		none(t, s, "Locked", splice(s.bytes, 42, 1, b))
		none(t, s, "Locked", splice(open, 42, 1, b))
	}
	none(t, s, "a lock behind a cell that is not Locked", splice(s.bytes, 42, 1, "\x00"))
	none(t, s, "no lock behind a cell that is Locked", splice(open, 42, 1, "\x01"))
}

// lengths tries each list of a T with as many elements as there may be, and with more and fewer than are told.
func lengths[T any](t *testing.T, s subject[T]) {
	for _, l := range s.lists {
		told := func(length string, count int) string {
			return splice(s.bytes, l.at, 1+l.size, length+strings.Repeat(element(l), count))
		}
		for _, n := range []number{{0, "\x00"}, {1, "\x02"}, {2, "\x04"}, {3, "\x06"}, {64, "\x80\x01"}, {65535, "\xfe\xff\x07"}, {65536, "\x80\x80\x08"}} {
			v := s.base()
			l.fill(&v, int(n.v))
			goes(t, s, l.name, v, told(n.bytes, int(n.v)))
		}
		// More are written, but not read.
		v := s.base()
		l.fill(&v, 65537)
		long := told("\x82\x80\x08", 65537)
		if string(s.put(v)) != long {
			t.Errorf("%s, %s: not so many as there are", s.name, l.name)
		}
		none(t, s, l.name, long)
		for _, b := range faulty(new(int)) {
			none(t, s, l.name, told(b, 1))
		}
		for _, n := range numbers() {
			if n.v < 0 || n.v > 65536 {
				for count := range 3 {
					none(t, s, l.name, told(n.bytes, count))
				}
			}
		}
		// They are not there, or are those of what follows.
		for _, n := range []string{"\x06", "\x7e", "\x80\x80\x08"} {
			none(t, s, l.name, told(n, 1))
			none(t, s, l.name, told(n, 1)[:l.at+len(n)])
			none(t, s, l.name, told(n, 1)[:l.at+len(n)+len(element(l))])
		}
	}
}

func TestLengthsOfLists(t *testing.T) {
	lengths(t, cmds())
	lengths(t, parts())
}

// Texts have no greatest length.
func TestLongTexts(t *testing.T) {
	for _, n := range []number{{1 << 20, "\x80\x80\x40"}, {1<<20 + 1, "\x81\x80\x40"}, {1 << 21, "\x80\x80\x80\x01"}} {
		long := strings.Repeat("long", int(n.v)/4+1)[:n.v]
		goes(t, cmds(), "a long text", api.Cmd{Spans: []api.Span{{Hi: long}}},
			"\x01"+strings.Repeat("\x00", 8)+zero+"\x00\x00"+"\x02\x00"+n.bytes+long+"\x00")
	}
}

// P14.2

// whole fails unless b is read only as it stands: no byte more or fewer, and no other first byte.
func whole[T any](t *testing.T, s subject[T], b string) {
	t.Helper()
	for n := range len(b) {
		none(t, s, "cut off", b[:n])
		none(t, s, "without its beginning", b[n+1:])
	}
	for c := range 256 {
		none(t, s, "a byte more", b+string([]byte{byte(c)}))
		if byte(c) != b[0] {
			none(t, s, "another first byte", splice(b, 0, 1, string([]byte{byte(c)})))
		}
	}
	none(t, s, "twice", b+b)
	none(t, s, "behind another byte", "\x00"+b)
}

func TestWholeBytes(t *testing.T) {
	_, c := fullCmd()
	_, p := fullPart()
	for _, b := range []string{c, cmds().bytes, string(wire.Cmd(api.Cmd{}))} {
		whole(t, cmds(), b)
		none(t, parts(), "a command", b)
	}
	for _, b := range []string{p, parts().bytes, string(wire.Part(api.Part{}))} {
		whole(t, parts(), b)
		none(t, cmds(), "a part", b)
	}
	for _, b := range []string{"", "\x00", "\x01", "\x02"} {
		none(t, cmds(), "next to nothing", b)
		none(t, parts(), "next to nothing", b)
	}
}

func TestJointsAtTheBeginning(t *testing.T) {
	full, fullBytes := fullJoint()
	far := api.Joint{Old: api.Config{Elect: -1 << 31, Commit: 1 << 30}}
	for _, c := range []struct {
		j     api.Joint
		bytes string
	}{
		{full, fullBytes}, {api.Joint{}, joints().bytes}, {far, string(wire.Joint(far))},
	} {
		for _, behind := range []string{"", "\x00", "\x01", "\xff", "joint", c.bytes, strings.Repeat("\x80", 40)} {
			if j, n, e := wire.TakeJoint([]byte(c.bytes + behind)); j != c.j || n != len(c.bytes) || e != api.OK {
				t.Errorf("%x and %x: %v %d %d", c.bytes, behind, j, n, e)
			}
		}
		for n := range len(c.bytes) {
			if j, n, e := wire.TakeJoint([]byte(c.bytes[:n])); j != (api.Joint{}) || n != 0 || e != api.ErrForm {
				t.Errorf("%x: %v %d %d", c.bytes[:n], j, n, e)
			}
		}
	}
	for _, p := range joints().places {
		for _, b := range faulty(p.of(new(api.Joint))) {
			b = splice(joints().bytes, p.at, 1, b)
			if j, n, e := wire.TakeJoint([]byte(b)); j != (api.Joint{}) || n != 0 || e != api.ErrForm {
				t.Errorf("%x: %v %d %d", b, j, n, e)
			}
		}
	}
}

// differ fails unless a and b are told to be the same just if they shall be.
func differ[T any](t *testing.T, s subject[T], what string, a, b T, want bool) {
	t.Helper()
	if s.same(a, b) != want || s.same(b, a) != want {
		t.Errorf("%s, %s: same is not %v: %.99v %.99v", s.name, what, want, a, b)
	}
}

// apart fails unless values that differ in one field, or in one list, are told to differ.
func apart[T any](t *testing.T, s subject[T]) {
	differ(t, s, "base", s.base(), s.base(), true)
	for _, p := range s.places {
		v := s.base()
		all := samples(p.of(&v))
		for i, x := range all {
			for k, y := range all {
				a, b := s.base(), s.base()
				x.set(p.of(&a))
				y.set(p.of(&b))
				differ(t, s, p.name, a, b, i == k)
			}
		}
	}
	for _, l := range s.lists {
		empty := s.base()
		l.empty(&empty)
		for i := range 4 {
			a := s.base()
			l.fill(&a, i)
			differ(t, s, l.name, a, empty, i == 0)
			differ(t, s, l.name, a, s.base(), i == 1 && l.name != "Cells")
			for k := range 4 {
				b := s.base()
				l.fill(&b, k)
				differ(t, s, l.name, a, b, i == k)
			}
		}
	}
}

func TestSame(t *testing.T) {
	apart(t, cmds())
	apart(t, parts())
	c, _ := fullCmd()
	other, _ := fullCmd()
	differ(t, cmds(), "a full one", c, other, true)
	other.Writes[2].Data = "ef"
	differ(t, cmds(), "the last element", c, other, false)
	other, _ = fullCmd()
	other.Spans[0], other.Spans[1] = other.Spans[1], other.Spans[0]
	differ(t, cmds(), "another order", c, other, false)
	differ(t, cmds(), "nil and empty", api.Cmd{}, api.Cmd{Spans: []api.Span{}, Writes: []api.Write{}}, true)
}

func TestSameParts(t *testing.T) {
	p, _ := fullPart()
	other, _ := fullPart()
	differ(t, parts(), "a full one", p, other, true)
	other.Cells[0].Versions[1].Drop = false
	differ(t, parts(), "the last version", p, other, false)
	other, _ = fullPart()
	other.Cells[0], other.Cells[1] = other.Cells[1], other.Cells[0]
	differ(t, parts(), "another order", p, other, false)
	other, _ = fullPart()
	other.Records, other.Done = other.Done, other.Records
	differ(t, parts(), "another list", p, other, false)
	empty := api.Part{Cells: []api.Cell{}, Records: []api.Outcome{}, Done: []api.Outcome{}}
	differ(t, parts(), "nil and empty", api.Part{}, empty, true)
	differ(t, parts(), "nil and empty versions", api.Part{Cells: []api.Cell{{}}}, api.Part{Cells: []api.Cell{{Versions: []api.Version{}}}}, true)
}

// The Lock of a cell that is not Locked is a field as well, though it has no bytes.
func TestSameLocks(t *testing.T) {
	with := func(locked bool, l api.Lock) api.Part {
		return api.Part{Cells: []api.Cell{{Locked: locked, Lock: l}}}
	}
	for _, l := range []api.Lock{{By: api.Try{Node: 1}}, {Home: 1}, {At: api.Stamp{Tie: 1}}, {Drop: true}, {Data: "d"}} {
		for _, locked := range []bool{false, true} {
			differ(t, parts(), "a lock and itself", with(locked, l), with(locked, l), true)
			differ(t, parts(), "a lock and none", with(locked, l), with(locked, api.Lock{}), false)
		}
		differ(t, parts(), "Locked or not", with(false, l), with(true, l), false)
	}
}
