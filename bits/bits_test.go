package bits_test

import (
	"bytes"
	"encoding/binary"
	"math"
	"math/big"
	"testing"

	"antipode/api"
	"antipode/bits"
)

// unsigned lists the numbers around every power of two, with the ends of uint64.
func unsigned() []uint64 {
	l := []uint64{0, 300, math.MaxUint64}
	for i := range 64 {
		p := uint64(1) << i
		l = append(l, p-1, p, p+1)
	}
	return l
}

// signed lists the numbers around every power of two, of both signs, with the ends of int64.
func signed() []int64 {
	var l []int64
	for _, u := range unsigned() {
		l = append(l, int64(u), -int64(u))
	}
	return append(l, math.MinInt64, math.MaxInt64)
}

// withTail gives a slice whose unused capacity can be looked at: behind its end lie bytes 0xEE.
func withTail(s string) (b, whole []byte) {
	whole = append([]byte(s), bytes.Repeat([]byte{0xEE}, 40)...)
	return whole[:len(s)], whole
}

// P1.1

func TestPutBytes(t *testing.T) {
	cases := []struct {
		b    string
		v    uint64
		n    int
		want string
	}{
		{"", 0, 1, "\x00"},
		{"", 255, 1, "\xff"},
		{"", 1, 8, "\x00\x00\x00\x00\x00\x00\x00\x01"},
		{"", 0x0102030405060708, 8, "\x01\x02\x03\x04\x05\x06\x07\x08"},
		{"", math.MaxUint64, 8, "\xff\xff\xff\xff\xff\xff\xff\xff"},
		{"ab", 0x010203, 3, "ab\x01\x02\x03"},
		{"ab", 0x010203, 5, "ab\x00\x00\x01\x02\x03"},
	}
	for _, c := range cases {
		if b, e := bits.Put([]byte(c.b), c.v, c.n); string(b) != c.want || e != api.OK {
			t.Errorf("Put(%q, %d, %d): %q %d", c.b, c.v, c.n, b, e)
		}
	}
}

func TestPutErrors(t *testing.T) {
	for _, n := range []int{0, -1, 9, 64, math.MinInt, math.MaxInt} {
		for _, v := range []uint64{0, math.MaxUint64} {
			if b, e := bits.Put([]byte("ab"), v, n); b != nil || e != api.ErrArg {
				t.Errorf("Put of %d in %d bytes: %v %d", v, n, b, e)
			}
		}
	}
	for n := 1; n < 8; n++ {
		limit := uint64(1) << (8 * n)
		if b, e := bits.Put(nil, limit-1, n); len(b) != n || e != api.OK {
			t.Errorf("Put of the greatest in %d bytes: %v %d", n, b, e)
		}
		for _, v := range []uint64{limit, limit + 1, limit << 1, math.MaxUint64} {
			if b, e := bits.Put([]byte("ab"), v, n); b != nil || e != api.ErrRange {
				t.Errorf("Put of %d in %d bytes: %v %d", v, n, b, e)
			}
		}
	}
}

func TestGetNumbers(t *testing.T) {
	b := []byte{1, 2, 3, 4, 5, 6, 7, 8, 9, 255}
	cases := []struct {
		at, n int
		want  uint64
	}{
		{0, 1, 1}, {9, 1, 255}, {0, 2, 0x0102}, {7, 3, 0x0809ff}, {0, 8, 0x0102030405060708}, {2, 8, 0x03040506070809ff},
	}
	for _, c := range cases {
		if v, e := bits.Get(b, c.at, c.n); v != c.want || e != api.OK {
			t.Errorf("Get at %d of %d bytes: %d %d", c.at, c.n, v, e)
		}
	}
	if v, e := bits.Get(bytes.Repeat([]byte{255}, 8), 0, 8); v != math.MaxUint64 || e != api.OK {
		t.Errorf("Get of the greatest: %d %d", v, e)
	}
}

func TestGetErrors(t *testing.T) {
	b := bytes.Repeat([]byte{7}, 10)
	cases := []struct {
		at, n int
		want  api.Errno
	}{
		{0, 0, api.ErrArg}, {0, 9, api.ErrArg}, {0, -1, api.ErrArg}, {-1, 1, api.ErrArg},
		{0, math.MinInt, api.ErrArg}, {0, math.MaxInt, api.ErrArg}, {math.MinInt, 8, api.ErrArg},
		{math.MaxInt, 9, api.ErrArg}, {math.MaxInt, 0, api.ErrArg},
		{10, 1, api.ErrShort}, {9, 2, api.ErrShort}, {3, 8, api.ErrShort},
		{math.MaxInt, 1, api.ErrShort}, {math.MaxInt, 8, api.ErrShort}, {math.MaxInt - 7, 8, api.ErrShort},
	}
	for _, c := range cases {
		if v, e := bits.Get(b, c.at, c.n); v != 0 || e != c.want {
			t.Errorf("Get at %d of %d bytes: %d %d, not %d", c.at, c.n, v, e, c.want)
		}
	}
	for n := 1; n <= 8; n++ {
		if v, e := bits.Get(nil, 0, n); v != 0 || e != api.ErrShort {
			t.Errorf("Get of %d bytes of none: %d %d", n, v, e)
		}
	}
}

// What lies in the unused capacity is not part of b.
func TestGetStaysInside(t *testing.T) {
	b, _ := withTail("abc")
	if v, e := bits.Get(b, 2, 2); v != 0 || e != api.ErrShort {
		t.Errorf("Get behind the end: %d %d", v, e)
	}
}

func TestPutThenGet(t *testing.T) {
	for _, v := range unsigned() {
		for n := 1; n <= 8; n++ {
			if n < 8 && v>>(8*n) != 0 {
				continue
			}
			b, e := bits.Put([]byte("head"), v, n)
			if e != api.OK || len(b) != 4+n {
				t.Fatalf("Put of %d in %d bytes: %v %d", v, n, b, e)
			}
			if u, e := bits.Get(append(b, "tail"...), 4, n); u != v || e != api.OK {
				t.Errorf("Get of %d in %d bytes: %d %d", v, n, u, e)
			}
		}
	}
}

// P1.2

func TestVarBytes(t *testing.T) {
	cases := []struct {
		v    uint64
		want string
	}{
		{0, "\x00"}, {1, "\x01"}, {127, "\x7f"}, {128, "\x80\x01"}, {300, "\xac\x02"}, {16383, "\xff\x7f"}, {16384, "\x80\x80\x01"},
		{1 << 63, "\x80\x80\x80\x80\x80\x80\x80\x80\x80\x01"},
		{math.MaxUint64, "\xff\xff\xff\xff\xff\xff\xff\xff\xff\x01"},
	}
	for _, c := range cases {
		if b := bits.Var([]byte("ab"), c.v); string(b) != "ab"+c.want {
			t.Errorf("Var of %d: %q", c.v, b)
		}
	}
	for _, v := range unsigned() {
		if b := bits.Var(nil, v); !bytes.Equal(b, binary.AppendUvarint(nil, v)) {
			t.Errorf("Var of %d: %v", v, b)
		}
	}
}

func TestVarThenTakeVar(t *testing.T) {
	for _, v := range unsigned() {
		b := bits.Var(nil, v)
		for _, tail := range []string{"", "\x00", "\x80", "\xff\xff", "tail"} {
			u, n, e := bits.TakeVar(append(bytes.Clone(b), tail...))
			if u != v || n != len(b) || e != api.OK {
				t.Errorf("TakeVar of %d with %q behind it: %d %d %d", v, tail, u, n, e)
			}
		}
	}
}

func TestVarCutOff(t *testing.T) {
	for _, v := range unsigned() {
		b := bits.Var(nil, v)
		for n := range len(b) {
			if u, m, e := bits.TakeVar(b[:n]); u != 0 || m != 0 || e != api.ErrShort {
				t.Errorf("TakeVar of %d bytes of %d: %d %d %d", n, v, u, m, e)
			}
		}
	}
}

func TestNoVarIsPrefixOfAnother(t *testing.T) {
	l := unsigned()
	for _, v := range l {
		for _, u := range l {
			if v != u && bytes.HasPrefix(bits.Var(nil, v), bits.Var(nil, u)) {
				t.Errorf("the varint of %d begins with that of %d", v, u)
			}
		}
	}
}

func TestTakeVarErrors(t *testing.T) {
	nine := "\xff\xff\xff\xff\xff\xff\xff\xff\xff"
	zeros := "\x80\x80\x80\x80\x80\x80\x80\x80\x80"
	cases := []struct {
		b    string
		want api.Errno
	}{
		{"", api.ErrShort}, {"\x80", api.ErrShort}, {nine, api.ErrShort}, {zeros, api.ErrShort},
		{nine + "\x02", api.ErrRange}, {nine + "\x7f", api.ErrRange}, {nine + "\x80", api.ErrRange},
		{nine + "\x81", api.ErrRange}, {nine + "\xff", api.ErrRange}, {zeros + "\x02", api.ErrRange},
		{zeros + "\x80\x00", api.ErrRange}, {zeros + "\x81\x00", api.ErrRange},
		{"\x80\x00", api.ErrForm}, {"\xff\x00", api.ErrForm}, {"\x80\x80\x00", api.ErrForm},
		{nine + "\x00", api.ErrForm}, {zeros + "\x00", api.ErrForm}, {"\xff\x00\xff", api.ErrForm},
	}
	for _, c := range cases {
		if v, n, e := bits.TakeVar([]byte(c.b)); v != 0 || n != 0 || e != c.want {
			t.Errorf("TakeVar of %q: %d %d %d, not %d", c.b, v, n, e, c.want)
		}
	}
	if v, n, e := bits.TakeVar(nil); v != 0 || n != 0 || e != api.ErrShort {
		t.Errorf("TakeVar of nil: %d %d %d", v, n, e)
	}
	b, _ := withTail("\xff")
	if v, n, e := bits.TakeVar(b); v != 0 || n != 0 || e != api.ErrShort {
		t.Errorf("TakeVar behind the end: %d %d %d", v, n, e)
	}
}

// Every number has one varint: whatever TakeVar accepts is what Var writes.
func TestTakeVarAcceptsOnlyVars(t *testing.T) {
	for first := range 256 {
		for second := range 256 {
			for _, third := range []byte{0, 1, 127, 128, 255} {
				b := []byte{byte(first), byte(second), third}
				v, n, e := bits.TakeVar(b)
				if e == api.OK && !bytes.Equal(bits.Var(nil, v), b[:n]) {
					t.Fatalf("TakeVar of %v: %d %d", b, v, n)
				}
			}
		}
	}
}

// P1.3

func TestTextBytes(t *testing.T) {
	long := bytes.Repeat([]byte("x"), 300)
	cases := []struct{ b, s, want string }{
		{"", "", "\x00"}, {"", "abc", "\x03abc"}, {"ab", "\x00\xff", "ab\x02\x00\xff"}, {"ab", string(long), "ab\xac\x02" + string(long)},
	}
	for _, c := range cases {
		if b := bits.Text([]byte(c.b), []byte(c.s)); string(b) != c.want {
			t.Errorf("Text(%q, %q): %q", c.b, c.s, b)
		}
	}
	if b := bits.Text(nil, nil); string(b) != "\x00" {
		t.Errorf("Text of nil: %q", b)
	}
}

func TestTextThenTakeText(t *testing.T) {
	for _, size := range []int{0, 1, 2, 127, 128, 129, 16383, 16384, 1<<20 - 1, 1 << 20} {
		s := bytes.Repeat([]byte{0x9c}, size)
		b := bits.Text(nil, s)
		for _, tail := range []string{"", "\x00", "tail"} {
			u, n, e := bits.TakeText(append(bytes.Clone(b), tail...))
			if !bytes.Equal(u, s) || n != len(b) || e != api.OK {
				t.Errorf("TakeText of %d bytes with %q behind it: %d bytes, %d %d", size, tail, len(u), n, e)
			}
		}
	}
}

func TestTakeTextErrors(t *testing.T) {
	long := func(size uint64, have int) string {
		return string(bits.Var(nil, size)) + string(make([]byte, have))
	}
	cases := []struct {
		b    string
		want api.Errno
	}{
		{"", api.ErrShort}, {"\x83", api.ErrShort}, {"\x83\x00abc", api.ErrForm},
		{"\xff\xff\xff\xff\xff\xff\xff\xff\xff\x02", api.ErrRange},
		{"\x01", api.ErrShort}, {"\x03ab", api.ErrShort}, {"\x80\x01ab", api.ErrShort},
		{long(1<<20, 0), api.ErrShort}, {long(1<<20, 1<<20-1), api.ErrShort},
		{long(1<<20+1, 0), api.ErrLong}, {long(1<<20+1, 1<<20+1), api.ErrLong}, {long(1<<31, 0), api.ErrLong},
		{long(1<<32+1, 3), api.ErrLong}, {long(math.MaxInt64, 3), api.ErrLong}, {long(1<<63, 3), api.ErrLong}, {long(math.MaxUint64, 3), api.ErrLong},
	}
	for _, c := range cases {
		if s, n, e := bits.TakeText([]byte(c.b)); s != nil || n != 0 || e != c.want {
			t.Errorf("TakeText of %d bytes, %q: %q %d %d, not %d", len(c.b), c.b[:min(len(c.b), 12)], s, n, e, c.want)
		}
	}
	b, _ := withTail("\x03ab")
	if s, n, e := bits.TakeText(b); s != nil || n != 0 || e != api.ErrShort {
		t.Errorf("TakeText behind the end: %q %d %d", s, n, e)
	}
}

// Nothing stops Text at the length above which TakeText refuses.
func TestTextHasNoLimit(t *testing.T) {
	s := make([]byte, 1<<20+1)
	b := bits.Text(nil, s)
	if !bytes.Equal(b, append(bits.Var(nil, 1<<20+1), s...)) {
		t.Errorf("Text of %d bytes: %d bytes", len(s), len(b))
	}
}

// P1.4

func TestZigAndZag(t *testing.T) {
	cases := []struct {
		v int64
		u uint64
	}{
		{0, 0}, {-1, 1}, {1, 2}, {-2, 3}, {2, 4}, {-64, 127}, {64, 128},
		{math.MaxInt64, math.MaxUint64 - 1}, {math.MinInt64, math.MaxUint64}, {math.MinInt64 + 1, math.MaxUint64 - 2},
	}
	for _, c := range cases {
		if u := bits.Zig(c.v); u != c.u {
			t.Errorf("Zig of %d: %d", c.v, u)
		}
		if v := bits.Zag(c.u); v != c.v {
			t.Errorf("Zag of %d: %d", c.u, v)
		}
	}
	for _, v := range signed() {
		if bits.Zag(bits.Zig(v)) != v {
			t.Errorf("Zag of Zig of %d: %d", v, bits.Zag(bits.Zig(v)))
		}
	}
	for _, u := range unsigned() {
		if bits.Zig(bits.Zag(u)) != u {
			t.Errorf("Zig of Zag of %d: %d", u, bits.Zig(bits.Zag(u)))
		}
	}
}

func TestOrderAndBack(t *testing.T) {
	cases := []struct {
		v int64
		u uint64
	}{
		{math.MinInt64, 0}, {math.MinInt64 + 1, 1}, {-1, 1<<63 - 1}, {0, 1 << 63}, {1, 1<<63 + 1}, {math.MaxInt64, math.MaxUint64},
	}
	for _, c := range cases {
		if u := bits.Order(c.v); u != c.u {
			t.Errorf("Order of %d: %d", c.v, u)
		}
		if v := bits.Back(c.u); v != c.v {
			t.Errorf("Back of %d: %d", c.u, v)
		}
	}
	l := signed()
	for _, v := range l {
		if bits.Back(bits.Order(v)) != v {
			t.Errorf("Back of Order of %d: %d", v, bits.Back(bits.Order(v)))
		}
		for _, w := range l {
			if (v < w) != (bits.Order(v) < bits.Order(w)) {
				t.Errorf("Order of %d and %d", v, w)
			}
		}
	}
	for _, u := range unsigned() {
		if bits.Order(bits.Back(u)) != u {
			t.Errorf("Order of Back of %d: %d", u, bits.Order(bits.Back(u)))
		}
	}
}

// P1.5

// checked says what a sum or product without bounds must become.
func checked(exact *big.Int) (int64, api.Errno) {
	if !exact.IsInt64() {
		return 0, api.ErrRange
	}
	return exact.Int64(), api.OK
}

func TestAdd(t *testing.T) {
	cases := []struct {
		a, b, want int64
		e          api.Errno
	}{
		{2, 3, 5, api.OK}, {2, -3, -1, api.OK}, {math.MaxInt64, 0, math.MaxInt64, api.OK}, {math.MinInt64, 0, math.MinInt64, api.OK},
		{math.MaxInt64 - 1, 1, math.MaxInt64, api.OK}, {math.MinInt64 + 1, -1, math.MinInt64, api.OK},
		{math.MaxInt64, math.MinInt64, -1, api.OK},
		{math.MaxInt64, 1, 0, api.ErrRange}, {math.MinInt64, -1, 0, api.ErrRange},
		{math.MaxInt64, math.MaxInt64, 0, api.ErrRange}, {math.MinInt64, math.MinInt64, 0, api.ErrRange},
	}
	for _, c := range cases {
		if s, e := bits.Add(c.a, c.b); s != c.want || e != c.e {
			t.Errorf("Add(%d, %d): %d %d", c.a, c.b, s, e)
		}
	}
	l := signed()
	for _, a := range l {
		for _, b := range l {
			want, no := checked(new(big.Int).Add(big.NewInt(a), big.NewInt(b)))
			if s, e := bits.Add(a, b); s != want || e != no {
				t.Errorf("Add(%d, %d): %d %d, not %d %d", a, b, s, e, want, no)
			}
		}
	}
}

func TestMul(t *testing.T) {
	cases := []struct {
		a, b, want int64
		e          api.Errno
	}{
		{2, 3, 6, api.OK}, {2, -3, -6, api.OK}, {-2, -3, 6, api.OK}, {0, math.MinInt64, 0, api.OK}, {math.MinInt64, 0, 0, api.OK},
		{math.MinInt64, 1, math.MinInt64, api.OK}, {1, math.MinInt64, math.MinInt64, api.OK}, {-1, math.MaxInt64, -math.MaxInt64, api.OK},
		{1 << 32, -1 << 31, math.MinInt64, api.OK}, {3037000499, 3037000499, 9223372030926249001, api.OK},
		{math.MinInt64, -1, 0, api.ErrRange}, {-1, math.MinInt64, 0, api.ErrRange}, {1 << 32, 1 << 31, 0, api.ErrRange},
		{1 << 32, 1 << 32, 0, api.ErrRange}, {3037000500, 3037000500, 0, api.ErrRange}, {math.MinInt64, math.MinInt64, 0, api.ErrRange},
		{math.MaxInt64, 2, 0, api.ErrRange}, {math.MaxInt64, math.MaxInt64, 0, api.ErrRange},
	}
	for _, c := range cases {
		if p, e := bits.Mul(c.a, c.b); p != c.want || e != c.e {
			t.Errorf("Mul(%d, %d): %d %d", c.a, c.b, p, e)
		}
	}
	l := signed()
	for _, a := range l {
		for _, b := range l {
			want, no := checked(new(big.Int).Mul(big.NewInt(a), big.NewInt(b)))
			if p, e := bits.Mul(a, b); p != want || e != no {
				t.Errorf("Mul(%d, %d): %d %d, not %d %d", a, b, p, e, want, no)
			}
		}
	}
}

// R3

// TestWritersCopy: the bytes of b, those in its unused capacity, and an earlier result stay as they are.
func TestWritersCopy(t *testing.T) {
	writers := map[string]func(b []byte) []byte{
		"Put":          func(b []byte) []byte { out, _ := bits.Put(b, 0x010203, 3); return out },
		"Var":          func(b []byte) []byte { return bits.Var(b, 300) },
		"Text":         func(b []byte) []byte { return bits.Text(b, []byte("xyz")) },
		"Text of none": func(b []byte) []byte { return bits.Text(b, nil) },
	}
	for name, write := range writers {
		b, whole := withTail("abc")
		before := bytes.Clone(whole)
		one := write(b)
		kept := bytes.Clone(one)
		two := write(b)
		for i := range two {
			two[i] ^= 0xFF
		}
		if !bytes.Equal(whole, before) || !bytes.Equal(one, kept) {
			t.Errorf("%s writes into what it was given, or into its earlier result", name)
		}
	}
}

func TestTextCopiesText(t *testing.T) {
	s, whole := withTail("xyz")
	before := bytes.Clone(whole)
	b := bits.Text(nil, s)
	for i := range b {
		b[i] ^= 0xFF
	}
	if !bytes.Equal(whole, before) {
		t.Errorf("Text shares the text: %q", whole)
	}
}

// A text written behind itself must not be overtaken by what is written.
func TestTextBehindItself(t *testing.T) {
	b, _ := withTail("abc")
	if out := bits.Text(b, b[1:]); string(out) != "abc\x02bc" {
		t.Errorf("Text of a piece of b: %q", out)
	}
}

func TestTakeTextCopies(t *testing.T) {
	b := []byte("\x03abctail")
	s, _, _ := bits.TakeText(b)
	_ = append(s, "XXXX"...)
	s[0] = 'X'
	if string(b) != "\x03abctail" {
		t.Errorf("TakeText shares its argument: %q", b)
	}
}
