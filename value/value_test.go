package value_test

import (
	"bytes"
	"math"
	"strconv"
	"strings"
	"testing"

	"antipode/api"
	"antipode/bits"
	"antipode/value"
)

func flag(n int64) api.Value { return api.Value{Kind: api.KindBool, N: n} }

func number(n int64) api.Value { return api.Value{Kind: api.KindInt, N: n} }

func text(s string) api.Value { return api.Value{Kind: api.KindText, S: s} }

// numbers lists, rising, the numbers at which an int64 may be taken for another: around 0, around those at which its bytes and varints grow, and both ends.
func numbers() []int64 {
	return []int64{
		math.MinInt64, math.MinInt64 + 1, -1<<32 - 1, -1 << 32, -1<<31 - 1, -1 << 31, -257, -256, -255, -129, -128, -65, -64, -63, -2, -1,
		0, 1, 2, 3, 63, 64, 65, 127, 128, 255, 256, 257, 300, 1<<31 - 1, 1 << 31, 1<<32 - 1, 1 << 32, math.MaxInt64 - 1, math.MaxInt64,
	}
}

// texts lists, rising, texts of at most MaxText bytes, many of them prefixes of others.
func texts() []string {
	few := []string{"\x00", "\x01", "'", "a", "\xff"}
	var l []string
	var grow func(s string)
	grow = func(s string) {
		l = append(l, s)
		if len(s) == 3 {
			// Two of MaxText bytes, which rise behind s and stay below the next one.
			l = append(l, s+strings.Repeat("\x00", api.MaxText-3), s+strings.Repeat("\xff", api.MaxText-3))
			return
		}
		for _, c := range few {
			grow(s + c)
		}
	}
	grow("")
	return l
}

// valid lists, rising, values that are valid.
func valid() []api.Value {
	l := []api.Value{{}, flag(0), flag(1)}
	for _, n := range numbers() {
		l = append(l, number(n))
	}
	for _, s := range texts() {
		l = append(l, text(s))
	}
	return l
}

// invalid lists values that are not valid, most of them in one field alone.
func invalid() []api.Value {
	most := strings.Repeat("a", api.MaxText)
	l := []api.Value{
		{S: "a"}, {S: "\x00"}, {S: most},
		{Kind: api.KindBool, S: "a"}, {Kind: api.KindBool, N: 1, S: "\x00"},
		{Kind: api.KindInt, S: "a"}, {Kind: api.KindInt, N: 7, S: "\x00"},
		text(most + "a"), text(most + "\x00"), text(strings.Repeat("\x00", api.MaxText+1)), text(strings.Repeat("a", 1<<20+1)),
		{Kind: api.KindText, N: 1, S: most + "a"}, {Kind: api.KindBool, N: 2, S: "a"}, {N: 1, S: "a"},
	}
	for _, n := range numbers() {
		if n != 0 {
			l = append(l, api.Value{N: n}, api.Value{Kind: api.KindText, N: n}, api.Value{Kind: api.KindText, N: n, S: "a"})
		}
		if n != 0 && n != 1 {
			l = append(l, flag(n))
		}
	}
	// A Kind whose last byte is that of another one is none either.
	for _, kind := range []int{math.MinInt, -256, -255, -254, -253, -3, -2, -1, 4, 5, 128, 255, 256, 257, 258, 259, 1 << 32, 1<<32 + 3, math.MaxInt} {
		l = append(l, api.Value{Kind: kind}, api.Value{Kind: kind, N: 1}, api.Value{Kind: kind, S: "a"})
	}
	return l
}

// form is one of the two encodings.
type form struct {
	name string
	put  func([]byte, api.Value) []byte
	take func([]byte) (api.Value, int, api.Errno)
}

func forms() []form {
	return []form{{"Key", value.Key, value.TakeKey}, {"Plain", value.Plain, value.Take}}
}

// spare returns b with unused capacity, and the whole of its memory.
func spare(b string) (part, whole []byte) {
	whole = append([]byte(b), bytes.Repeat([]byte{0xee}, 2000)...)
	return whole[:len(b)], whole
}

// P7.1

func TestMay(t *testing.T) {
	for _, v := range valid() {
		if !value.May(v) {
			t.Errorf("%v is valid", v)
		}
	}
	for _, v := range invalid() {
		if value.May(v) {
			t.Errorf("%v is not valid", v)
		}
	}
}

func TestMayOfTextsOfEachLength(t *testing.T) {
	for _, fill := range []string{"\x00", "a", "'", "\xff"} {
		for n := range 4 * api.MaxText {
			if value.May(text(strings.Repeat(fill, n))) != (n <= 64) {
				t.Errorf("a text of %d bytes %q", n, fill)
			}
		}
	}
}

// The limit is one of bytes, not of characters.
func TestMayCountsBytes(t *testing.T) {
	if !value.May(text(strings.Repeat("\u00e9", 32))) || value.May(text(strings.Repeat("\u00e9", 33))) {
		t.Errorf("a text of characters of two bytes")
	}
}

func TestCompareCases(t *testing.T) {
	cases := []struct {
		a, b api.Value
		want int
	}{
		{api.Value{}, api.Value{}, 0},
		{text("a"), text("a"), 0},
		{api.Value{}, flag(0), -1},
		{flag(1), number(math.MinInt64), -1},
		{number(math.MaxInt64), text(""), -1},
		{flag(0), flag(1), -1},
		{number(-1), number(0), -1},
		{number(math.MinInt64), number(math.MaxInt64), -1},
		{text(""), text("\x00"), -1},
		{text("a"), text("a\x00"), -1},
		{text("a"), text("ab"), -1},
		{text("ab"), text("b"), -1},
		{text("\x7f"), text("\x80"), -1},
		{text("\xff"), text("\xff\x00"), -1},
		{text("B"), text("a"), -1},
		{api.Value{Kind: -1, N: 9, S: "z"}, api.Value{}, -1},
		{text("z"), api.Value{Kind: 4}, -1},
		{api.Value{N: 1, S: "b"}, api.Value{N: 2, S: "a"}, -1},
		{api.Value{N: 1, S: "a"}, api.Value{N: 1, S: "b"}, -1},
	}
	for _, c := range cases {
		if got := value.Compare(c.a, c.b); got != c.want {
			t.Errorf("Compare of %v and %v: %d, not %d", c.a, c.b, got, c.want)
		}
		if got := value.Compare(c.b, c.a); got != -c.want {
			t.Errorf("Compare of %v and %v: %d, not %d", c.b, c.a, got, -c.want)
		}
	}
}

// Compare orders all values, also those that are not valid: by Kind, then by N, then by S.
func TestCompareIsAnOrder(t *testing.T) {
	var l []api.Value
	for _, kind := range []int{math.MinInt, -1, 0, 1, 2, 3, 4, 256, math.MaxInt} {
		for _, n := range []int64{math.MinInt64, -1, 0, 1, math.MaxInt64} {
			for _, s := range []string{"", "\x00", "\x00\x01", "\x01", "a", "a\x00", "ab", "b", "\xff", "\xff\xff"} {
				l = append(l, api.Value{Kind: kind, N: n, S: s})
			}
		}
	}
	rises(t, l)
	rises(t, valid())
}

// rises tells of each pair of l for which Compare does not answer what their places say.
func rises(t *testing.T, l []api.Value) {
	t.Helper()
	for i, a := range l {
		for k, b := range l {
			want := 0
			if i < k {
				want = -1
			} else if i > k {
				want = 1
			}
			if got := value.Compare(a, b); got != want {
				t.Errorf("Compare of %v and %v: %d", a, b, got)
			}
		}
	}
}

// P7.2

func TestKeyCases(t *testing.T) {
	holds(t, value.Key, value.TakeKey, []example{
		{api.Value{}, "\x00"},
		{flag(0), "\x01\x00"},
		{flag(1), "\x01\x01"},
		{number(-1), "\x02\x7f\xff\xff\xff\xff\xff\xff\xff"},
		{number(0), "\x02\x80\x00\x00\x00\x00\x00\x00\x00"},
		{number(0x0102030405060708), "\x02\x81\x02\x03\x04\x05\x06\x07\x08"},
		{number(math.MinInt64), "\x02\x00\x00\x00\x00\x00\x00\x00\x00"},
		{number(math.MaxInt64), "\x02\xff\xff\xff\xff\xff\xff\xff\xff"},
		{text(""), "\x03\x00\x01"},
		{text("a"), "\x03a\x00\x01"},
		{text("ab"), "\x03ab\x00\x01"},
		{text("it's"), "\x03it's\x00\x01"},
		{text("\x00"), "\x03\x00\xff\x00\x01"},
		{text("\x01"), "\x03\x01\x00\x01"},
		{text("\xff"), "\x03\xff\x00\x01"},
		{text("\x00\x00"), "\x03\x00\xff\x00\xff\x00\x01"},
		{text("\x00\x01"), "\x03\x00\xff\x01\x00\x01"},
		{text("\x00\xff"), "\x03\x00\xff\xff\x00\x01"},
		{text("a\x00b\x01\xff"), "\x03a\x00\xffb\x01\xff\x00\x01"},
		{text(strings.Repeat("a", 64)), "\x03" + strings.Repeat("a", 64) + "\x00\x01"},
		{text(strings.Repeat("\xff", 64)), "\x03" + strings.Repeat("\xff", 64) + "\x00\x01"},
		{text(strings.Repeat("\x00", 64)), "\x03" + strings.Repeat("\x00\xff", 64) + "\x00\x01"},
	})
}

// example is a value and its encoding.
type example struct {
	v    api.Value
	want string
}

// holds checks an encoding by examples, with bytes in front of it and behind it.
func holds(t *testing.T, put func([]byte, api.Value) []byte, take func([]byte) (api.Value, int, api.Errno), l []example) {
	t.Helper()
	for _, c := range l {
		for _, front := range []string{"", "x", "\x00", "\x03\x00\xff"} {
			if b := put([]byte(front), c.v); string(b) != front+c.want {
				t.Errorf("%v behind %q: %q", c.v, front, b)
			}
		}
		if b := put(nil, c.v); string(b) != c.want {
			t.Errorf("%v: %q", c.v, b)
		}
		for _, tail := range []string{"", "\x00", "\x01", "\xff", "\x00\x01", c.want} {
			if v, n, e := take([]byte(c.want + tail)); v != c.v || n != len(c.want) || e != api.OK {
				t.Errorf("%q in front of %q: %v %d %d", c.want, tail, v, n, e)
			}
		}
	}
}

func TestTakeKeyErrors(t *testing.T) {
	full := strings.Repeat("a", 64)
	fails(t, value.TakeKey, []failure{
		{"", api.ErrShort},
		{"\x04", api.ErrForm}, {"\x05\x00\x01", api.ErrForm}, {"\x80", api.ErrForm}, {"\xff", api.ErrForm},
		{"\x01", api.ErrShort}, {"\x01\x02", api.ErrForm}, {"\x01\x80\x00", api.ErrForm}, {"\x01\xff", api.ErrForm},
		{"\x02", api.ErrShort}, {"\x02\x80\x00\x00\x00\x00\x00\x00", api.ErrShort},
		{"\x03", api.ErrShort}, {"\x03a", api.ErrShort}, {"\x03\x00", api.ErrShort}, {"\x03\x00\xff", api.ErrShort}, {"\x03\x00\xff\x00", api.ErrShort},
		{"\x03\x00\x00", api.ErrForm}, {"\x03\x00\x02", api.ErrForm}, {"\x03\x00\xfe", api.ErrForm}, {"\x03\x00a", api.ErrForm}, {"\x03a\x00\x00\x01", api.ErrForm},
		// A Text of MaxText bytes may end, and no more.
		{"\x03" + full, api.ErrShort}, {"\x03" + full + "\x00", api.ErrShort},
		{"\x03" + full + "a", api.ErrLong}, {"\x03" + full + "a\x00\x01", api.ErrLong}, {"\x03" + full + "\x01", api.ErrLong}, {"\x03" + full + "\xff", api.ErrLong},
		{"\x03" + full + "\x00\xff", api.ErrLong}, {"\x03" + full + "\x00\xff\x00\x01", api.ErrLong},
		{"\x03" + full + "\x00\x00", api.ErrForm}, {"\x03" + full + "\x00\x02", api.ErrForm}, {"\x03" + full + "\x00\xfe", api.ErrForm},
		{"\x03" + strings.Repeat("\x00\xff", 64), api.ErrShort}, {"\x03" + strings.Repeat("\x00\xff", 64) + "\x00", api.ErrShort},
		{"\x03" + strings.Repeat("\x00\xff", 65), api.ErrLong}, {"\x03" + strings.Repeat("\x00\xff", 64) + "a", api.ErrLong},
		// The first byte that is wrong tells, whatever is wrong behind it.
		{"\x03\x00\x02" + full + full, api.ErrForm}, {"\x03" + full + "a\x00\x02", api.ErrLong}, {"\x03" + full + "\x00\xff\x00\x02", api.ErrLong},
		{"\x03" + full[1:] + "\x00\x02", api.ErrForm}, {"\x03" + full[1:] + "\x00\xff\x00\x02", api.ErrForm}, {"\x03" + full[1:] + "\x00\xffa", api.ErrLong},
	})
}

// failure is bytes that can't be taken, and why not.
type failure struct {
	b    string
	want api.Errno
}

// fails checks that a value is refused, with nothing beside the error.
func fails(t *testing.T, take func([]byte) (api.Value, int, api.Errno), l []failure) {
	t.Helper()
	for _, c := range l {
		if v, n, e := take([]byte(c.b)); v != (api.Value{}) || n != 0 || e != c.want {
			t.Errorf("%q: %v %d %d, not %d", c.b, v, n, e, c.want)
		}
	}
	if v, n, e := take(nil); v != (api.Value{}) || n != 0 || e != api.ErrShort {
		t.Errorf("nil: %v %d %d", v, n, e)
	}
}

// each calls f for all byte strings of at most most bytes of those that mean something in an encoding.
func each(most int, f func(b []byte)) {
	const few = "\x00\x01\x02\x03\x04a\x7f\x80\xff"
	var grow func(b []byte)
	grow = func(b []byte) {
		f(b)
		if len(b) == most {
			return
		}
		for i := range len(few) {
			grow(append(b[:len(b):len(b)], few[i]))
		}
	}
	grow(nil)
}

// ErrShort means that there are bytes with which b would be a Key; every other error stays whatever follows.
func TestTakeKeyGoesByteByByte(t *testing.T) {
	ends := []string{"", "\x00", "\x01", "\x00\x01", strings.Repeat("\x00", 8)}
	check := func(b []byte) {
		v, n, e := value.TakeKey(b)
		if e != api.OK && (v != (api.Value{}) || n != 0) {
			t.Errorf("%q: %v %d %d", b, v, n, e)
		}
		whole := false
		for _, s := range ends {
			longer := append(b[:len(b):len(b)], s...)
			w, m, f := value.TakeKey(longer)
			if e != api.ErrShort && (w != v || m != n || f != e) {
				t.Errorf("%q: %v %d %d, but with %q behind it %v %d %d", b, v, n, e, s, w, m, f)
			}
			whole = whole || f == api.OK
		}
		if e == api.ErrShort && !whole {
			t.Errorf("%q: ErrShort, but nothing makes it a Key", b)
		}
	}
	each(5, check)
	for _, fill := range []string{"a", "\x00\xff"} {
		for n := 60; n <= 66; n++ {
			each(3, func(b []byte) { check([]byte("\x03" + strings.Repeat(fill, n) + string(b))) })
		}
	}
}

// P7.3

func TestPlainCases(t *testing.T) {
	holds(t, value.Plain, value.Take, []example{
		{api.Value{}, "\x00"},
		{flag(0), "\x01\x00"},
		{flag(1), "\x01\x01"},
		{number(0), "\x02\x00"},
		{number(-1), "\x02\x01"},
		{number(1), "\x02\x02"},
		{number(-64), "\x02\x7f"},
		{number(64), "\x02\x80\x01"},
		{number(150), "\x02\xac\x02"},
		{number(math.MaxInt64), "\x02\xfe\xff\xff\xff\xff\xff\xff\xff\xff\x01"},
		{number(math.MinInt64), "\x02\xff\xff\xff\xff\xff\xff\xff\xff\xff\x01"},
		{text(""), "\x03\x00"},
		{text("a"), "\x03\x01a"},
		{text("ab"), "\x03\x02ab"},
		{text("it's"), "\x03\x04it's"},
		{text("\x00"), "\x03\x01\x00"},
		{text("\x01"), "\x03\x01\x01"},
		{text("a\x00\x01\xff"), "\x03\x04a\x00\x01\xff"},
		{text(strings.Repeat("a", 64)), "\x03\x40" + strings.Repeat("a", 64)},
		{text(strings.Repeat("\x00", 64)), "\x03\x40" + strings.Repeat("\x00", 64)},
	})
}

// The chapter gives the encoding by bits.Var, bits.Zig and bits.Text.
func TestPlainIsMadeOfBits(t *testing.T) {
	for _, n := range numbers() {
		if b := value.Plain([]byte("x"), number(n)); !bytes.Equal(b, bits.Var([]byte("x\x02"), bits.Zig(n))) {
			t.Errorf("Plain of %d: %q", n, b)
		}
	}
	for _, s := range texts() {
		if b := value.Plain([]byte("x"), text(s)); !bytes.Equal(b, bits.Text([]byte("x\x03"), []byte(s))) {
			t.Errorf("Plain of %q: %q", s, b)
		}
	}
}

func TestTakeErrors(t *testing.T) {
	const nine = "\xff\xff\xff\xff\xff\xff\xff\xff\xff"
	fails(t, value.Take, []failure{
		{"", api.ErrShort},
		{"\x04", api.ErrForm}, {"\x05\x00", api.ErrForm}, {"\x80", api.ErrForm}, {"\xff", api.ErrForm},
		{"\x01", api.ErrShort}, {"\x01\x02", api.ErrForm}, {"\x01\x80\x00", api.ErrForm}, {"\x01\xff", api.ErrForm},
		{"\x02", api.ErrShort}, {"\x02\x80", api.ErrShort}, {"\x02" + nine, api.ErrShort},
		{"\x02" + nine + "\x02", api.ErrRange}, {"\x02" + nine + "\x80\x00", api.ErrRange},
		{"\x02\x80\x00", api.ErrForm}, {"\x02\xff\x80\x00", api.ErrForm}, {"\x02" + nine + "\x00", api.ErrForm},
		{"\x03", api.ErrShort}, {"\x03\x80", api.ErrShort}, {"\x03" + nine, api.ErrShort},
		{"\x03" + nine + "\x02", api.ErrRange}, {"\x03" + nine + "\x80\x00", api.ErrRange},
		{"\x03\x80\x00", api.ErrForm}, {"\x03\x81\x00a", api.ErrForm}, {"\x03" + nine + "\x00", api.ErrForm},
		{"\x03\x01", api.ErrShort}, {"\x03\x02a", api.ErrShort}, {"\x03\x40" + strings.Repeat("a", 63), api.ErrShort},
		// Of more than MaxText bytes: all of them must be there before there are too many.
		{"\x03\x41" + strings.Repeat("a", 64), api.ErrShort}, {"\x03\x41" + strings.Repeat("a", 65), api.ErrLong}, {"\x03\x41" + strings.Repeat("a", 66), api.ErrLong},
		{"\x03\x80\x01" + strings.Repeat("a", 127), api.ErrShort}, {"\x03\x80\x01" + strings.Repeat("a", 128), api.ErrLong},
		// Of more than 2^20 bytes: there are too many, whether they are there or not.
		{"\x03\x80\x80\x40" + strings.Repeat("a", 1<<20-1), api.ErrShort}, {"\x03\x80\x80\x40" + strings.Repeat("a", 1<<20), api.ErrLong},
		{"\x03\x81\x80\x40", api.ErrLong}, {"\x03\x81\x80\x40" + strings.Repeat("a", 1<<20+1), api.ErrLong}, {"\x03" + nine + "\x01", api.ErrLong},
	})
}

// What follows

func TestKeysHaveTheOrderOfCompare(t *testing.T) {
	l := valid()
	keys := make([][]byte, len(l))
	for i, v := range l {
		keys[i] = value.Key(nil, v)
	}
	for i, a := range keys {
		for k, b := range keys {
			if bytes.Compare(a, b) != value.Compare(l[i], l[k]) {
				t.Errorf("the Keys of %v and %v: %x and %x", l[i], l[k], a, b)
			}
			if i != k && bytes.HasPrefix(b, a) {
				t.Errorf("the Key of %v is a prefix of that of %v", l[i], l[k])
			}
		}
	}
}

func TestBothCanBeReadBack(t *testing.T) {
	for _, f := range forms() {
		for _, v := range valid() {
			b := f.put(nil, v)
			for _, tail := range []string{"", "\x00", "\x01", "\xff", "\x00\x01\x02"} {
				if got, n, e := f.take(append(b[:len(b):len(b)], tail...)); got != v || n != len(b) || e != api.OK {
					t.Errorf("%s of %v in front of %q: %v %d %d", f.name, v, tail, got, n, e)
				}
			}
			for i := range b {
				if got, n, e := f.take(b[:i]); got != (api.Value{}) || n != 0 || e != api.ErrShort {
					t.Errorf("%s of %v, %d bytes of it: %v %d %d", f.name, v, i, got, n, e)
				}
			}
		}
	}
}

// A value has one encoding of each form: what is taken is what would be written.
func TestWhatIsTakenIsWhatIsWritten(t *testing.T) {
	for _, f := range forms() {
		each(5, func(b []byte) {
			v, n, e := f.take(b)
			if e != api.OK {
				return
			}
			if !value.May(v) || n > len(b) || !bytes.Equal(f.put(nil, v), b[:n]) {
				t.Errorf("%s: %q taken as %v of %d bytes", f.name, b, v, n)
			}
		})
	}
}

func TestValuesOneBehindAnother(t *testing.T) {
	for _, f := range forms() {
		var b []byte
		for _, v := range valid() {
			b = f.put(b, v)
		}
		for _, v := range valid() {
			got, n, e := f.take(b)
			if got != v || e != api.OK {
				t.Fatalf("%s of %v: %v %d %d", f.name, v, got, n, e)
			}
			b = b[n:]
		}
		if len(b) != 0 {
			t.Errorf("%s: %d bytes are left", f.name, len(b))
		}
	}
}

func TestWhatIsNotValidAddsNothing(t *testing.T) {
	for _, f := range forms() {
		for _, v := range invalid() {
			for _, front := range []string{"", "x", "\x03a\x00\x01"} {
				if b := f.put([]byte(front), v); string(b) != front {
					t.Errorf("%s of %d %d %.9q behind %q: %.99q", f.name, v.Kind, v.N, v.S, front, b)
				}
			}
			if b := f.put(nil, v); len(b) != 0 {
				t.Errorf("%s of %d %d %.9q: %.99q", f.name, v.Kind, v.N, v.S, b)
			}
		}
	}
}

// P7.4

func TestShowCases(t *testing.T) {
	cases := []struct {
		v    api.Value
		want string
	}{
		{api.Value{}, "NULL"},
		{flag(1), "TRUE"},
		{flag(0), "FALSE"},
		{number(0), "0"},
		{number(7), "7"},
		{number(-5), "-5"},
		{number(1000000), "1000000"},
		{number(math.MaxInt64), "9223372036854775807"},
		{number(math.MinInt64), "-9223372036854775808"},
		{text(""), "''"},
		{text("a"), "'a'"},
		{text("NULL"), "'NULL'"},
		{text("-5"), "'-5'"},
		{text("it's"), "'it''s'"},
		{text("'"), "''''"},
		{text("''"), "''''''"},
		{text("'a'"), "'''a'''"},
		{text("a''b"), "'a''''b'"},
		{text("\"\\\n"), "'\"\\\n'"},
		{text("\x00\x01\xff"), "'\x00\x01\xff'"},
		{text("\xff'\xfe"), "'\xff''\xfe'"},
		{text("\u00e9"), "'\u00e9'"},
		{text(strings.Repeat("'", 64)), strings.Repeat("'", 130)},
		{text(strings.Repeat("a", 64)), "'" + strings.Repeat("a", 64) + "'"},
	}
	for _, c := range cases {
		if got := value.Show(c.v); got != c.want {
			t.Errorf("Show of %v: %q, not %q", c.v, got, c.want)
		}
	}
}

// quoted writes s byte by byte as P7.4 says.
func quoted(s string) string {
	b := []byte{'\''}
	for i := range len(s) {
		if s[i] == '\'' {
			b = append(b, '\'')
		}
		b = append(b, s[i])
	}
	return string(append(b, '\''))
}

func TestShowOfAll(t *testing.T) {
	for _, n := range numbers() {
		if got := value.Show(number(n)); got != strconv.FormatInt(n, 10) {
			t.Errorf("Show of %d: %q", n, got)
		}
	}
	for _, s := range texts() {
		if got := value.Show(text(s)); got != quoted(s) {
			t.Errorf("Show of %q: %q", s, got)
		}
	}
	for _, v := range invalid() {
		if got := value.Show(v); got != "" {
			t.Errorf("Show of %d %d %.9q: %.99q", v.Kind, v.N, v.S, got)
		}
	}
}

// R3

// What a caller keeps behind the end of b stays as it is, and the result is other memory than b.
func TestEncodingsAreNewMemory(t *testing.T) {
	for _, f := range forms() {
		for _, v := range append(valid(), invalid()...) {
			for _, front := range []string{"", "front"} {
				part, whole := spare(front)
				kept := bytes.Clone(whole)
				got := f.put(part, v)
				if !bytes.Equal(whole, kept) {
					t.Fatalf("%s of %v wrote into its argument", f.name, v)
				}
				for i := range got[:cap(got)] {
					got[:cap(got)][i] = 0xdd
				}
				if !bytes.Equal(whole, kept) {
					t.Fatalf("%s of %v shares memory with its argument", f.name, v)
				}
			}
		}
	}
}

func TestTakenValuesAreNewMemory(t *testing.T) {
	for _, f := range forms() {
		for _, v := range valid() {
			part, whole := spare(string(f.put(nil, v)))
			kept := bytes.Clone(whole)
			got, n, e := f.take(part)
			if !bytes.Equal(whole, kept) {
				t.Fatalf("taking the %s of %v wrote into its argument", f.name, v)
			}
			clear(whole)
			if got != v || n != len(part) || e != api.OK {
				t.Fatalf("taking the %s of %v: %v %d %d", f.name, v, got, n, e)
			}
		}
	}
}

// What lies in the unused capacity is not part of b.
func TestTakingStaysInside(t *testing.T) {
	for _, f := range forms() {
		for _, v := range valid() {
			b := f.put(nil, v)
			for i := range b {
				if got, n, e := f.take(b[:i:len(b)]); got != (api.Value{}) || n != 0 || e != api.ErrShort {
					t.Errorf("%s of %v, %d bytes of it: %v %d %d", f.name, v, i, got, n, e)
				}
			}
		}
	}
}
