package sum_test

import (
	"bytes"
	"hash/crc32"
	"math/rand"
	"testing"

	"antipode/sum"
)

// castagnoli tells CRC-32C as another hand built it.
func castagnoli(b []byte) uint32 {
	return crc32.Checksum(b, crc32.MakeTable(crc32.Castagnoli))
}

// literal does word for word what P2.1 says.
func literal(b []byte) uint32 {
	r := uint32(0xFFFFFFFF)
	for _, c := range b {
		r ^= uint32(c)
		for range 8 {
			out := r & 1
			r >>= 1
			if out == 1 {
				r ^= 0x82F63B78
			}
		}
	}
	return r ^ 0xFFFFFFFF
}

// noise gives n bytes that look like none in particular, always the same ones.
func noise(n int) []byte {
	b := make([]byte, n)
	rand.New(rand.NewSource(int64(n))).Read(b)
	return b
}

// P2.1

func TestOfKnownSums(t *testing.T) {
	cases := []struct {
		b    string
		want uint32
	}{
		{"", 0},
		{"123456789", 0xE3069283},
		{"a", 0xC1D04330},
		{"\x00", 0x527D5351},
		{"\xff", 0xFF000000},
		{string(make([]byte, 32)), 0x8A9136AA},
		{string(bytes.Repeat([]byte{0xFF}, 32)), 0x62A8AB43},
		{"\x00\x01\x02\x03\x04\x05\x06\x07\x08\x09\x0a\x0b\x0c\x0d\x0e\x0f\x10\x11\x12\x13\x14\x15\x16\x17\x18\x19\x1a\x1b\x1c\x1d\x1e\x1f", 0x46DD794E},
	}
	for _, c := range cases {
		if got := sum.Of([]byte(c.b)); got != c.want {
			t.Errorf("Of(%q): %08x, not %08x", c.b, got, c.want)
		}
	}
}

func TestOfEveryByte(t *testing.T) {
	for first := range 256 {
		for second := range 256 {
			b := []byte{byte(first), byte(second)}
			if got := sum.Of(b); got != literal(b) || got != castagnoli(b) {
				t.Fatalf("Of(%v): %08x, not %08x", b, got, literal(b))
			}
		}
		if b := []byte{byte(first)}; sum.Of(b) != literal(b) {
			t.Errorf("Of(%v): %08x, not %08x", b, sum.Of(b), literal(b))
		}
	}
}

func TestOfEveryLength(t *testing.T) {
	for n := range 300 {
		b := noise(n)
		if got := sum.Of(b); got != literal(b) || got != castagnoli(b) {
			t.Errorf("Of %d bytes: %08x, not %08x", n, got, literal(b))
		}
	}
	for _, n := range []int{4095, 4096, 1<<20 + 3} {
		b := noise(n)
		if got := sum.Of(b); got != castagnoli(b) {
			t.Errorf("Of %d bytes: %08x, not %08x", n, got, castagnoli(b))
		}
	}
}

func TestOfNothing(t *testing.T) {
	if c := sum.Of(); c != 0 {
		t.Errorf("Of no parts: %08x", c)
	}
	if c := sum.Of(nil...); c != 0 {
		t.Errorf("Of a nil list of parts: %08x", c)
	}
	for _, parts := range [][][]byte{{nil}, {{}}, {nil, {}, nil}, {{}, {}}} {
		if c := sum.Of(parts...); c != 0 {
			t.Errorf("Of %d empty parts: %08x", len(parts), c)
		}
	}
}

func TestOfEmptyPartsBetween(t *testing.T) {
	b := []byte("123456789")
	for _, parts := range [][][]byte{
		{nil, b}, {b, nil}, {{}, b, {}}, {b[:4], nil, b[4:]}, {nil, b[:1], {}, nil, b[1:8], {}, b[8:], nil},
	} {
		if c := sum.Of(parts...); c != 0xE3069283 {
			t.Errorf("Of %q: %08x", parts, c)
		}
	}
}

func TestMoreOfNothing(t *testing.T) {
	for _, c := range []uint32{0, 1, 1 << 31, 0x82F63B78, 0xFFFFFFFE, 0xFFFFFFFF} {
		if sum.More(c, nil) != c || sum.More(c, []byte{}) != c {
			t.Errorf("More of no bytes changes %08x to %08x", c, sum.More(c, nil))
		}
	}
}

func TestMoreFromNothing(t *testing.T) {
	for n := range 100 {
		if b := noise(n); sum.More(0, b) != sum.Of(b) {
			t.Errorf("More of %d bytes after none: %08x, not %08x", n, sum.More(0, b), sum.Of(b))
		}
	}
}

func TestMoreFollows(t *testing.T) {
	for n := range 80 {
		b := noise(n)
		for i := range n + 1 {
			if got := sum.More(sum.Of(b[:i]), b[i:]); got != literal(b) {
				t.Errorf("More after %d bytes of %d: %08x, not %08x", i, n, got, literal(b))
			}
		}
	}
}

// Any number is the checksum of some four bytes: More must go on from each.
func TestMoreFromAnySum(t *testing.T) {
	table := crc32.MakeTable(crc32.Castagnoli)
	l := []uint32{0, 1, 0x7FFFFFFF, 1 << 31, 0xFFFFFFFE, 0xFFFFFFFF, 0x82F63B78}
	for i := range 32 {
		l = append(l, 1<<i, ^uint32(1<<i))
	}
	for _, c := range l {
		for _, s := range []string{"\x00", "\xff", "a", "123456789", "\x00\x00\x00\x00"} {
			if got, want := sum.More(c, []byte(s)), crc32.Update(c, table, []byte(s)); got != want {
				t.Errorf("More(%08x, %q): %08x, not %08x", c, s, got, want)
			}
		}
	}
}

// What follows: the parts do not matter.

func TestAnyTwoCuts(t *testing.T) {
	b := noise(40)
	want := literal(b)
	for i := range len(b) + 1 {
		for j := i; j <= len(b); j++ {
			if got := sum.Of(b[:i], b[i:j], b[j:]); got != want {
				t.Errorf("Of %d bytes cut at %d and %d: %08x, not %08x", len(b), i, j, got, want)
			}
			if got := sum.More(sum.Of(b[:i], b[i:j]), b[j:]); got != want {
				t.Errorf("More of %d bytes cut at %d and %d: %08x, not %08x", len(b), i, j, got, want)
			}
		}
	}
}

func TestManyParts(t *testing.T) {
	b := noise(1000)
	want := literal(b)
	for size := 1; size <= len(b); size += 7 {
		var parts [][]byte
		for at := 0; at < len(b); at += size {
			parts = append(parts, b[at:min(at+size, len(b))])
		}
		if got := sum.Of(parts...); got != want {
			t.Errorf("Of parts of %d bytes: %08x, not %08x", size, got, want)
		}
	}
}

// The order of the parts does matter.
func TestPartsInOrder(t *testing.T) {
	if sum.Of([]byte("ab"), []byte("c")) == sum.Of([]byte("c"), []byte("ab")) {
		t.Error("Of parts in another order is the same")
	}
}

// What follows: a run of at most 32 bits that differs is noticed.

// flip inverts the bits of b from at on for which mask has a 1.
func flip(b []byte, at int, mask uint32) {
	for i := range 32 {
		if mask>>i&1 == 1 {
			b[(at+i)/8] ^= 1 << ((at + i) % 8)
		}
	}
}

func TestRunsOfBitsAreNoticed(t *testing.T) {
	masks := []uint32{1, 3, 5, 0xFF, 0xFFFF, 0x80000001, 0xFFFFFFFF, 0x82F63B78, 0x82F63B79, 0x05EC76F1, 0x1EDC6F41}
	r := rand.New(rand.NewSource(2))
	for range 200 {
		masks = append(masks, r.Uint32()|1)
	}
	for _, b := range [][]byte{make([]byte, 20), bytes.Repeat([]byte{0xFF}, 20), noise(20)} {
		was := sum.Of(b)
		for _, mask := range masks {
			for at := range 8*len(b) - 31 {
				other := bytes.Clone(b)
				flip(other, at, mask)
				if sum.Of(other) == was {
					t.Fatalf("%x and %x have one checksum", b, other)
				}
			}
		}
	}
}

func TestSingleBitsAreNoticed(t *testing.T) {
	b := noise(100)
	seen := map[uint32]int{sum.Of(b): -1}
	for i := range 8 * len(b) {
		other := bytes.Clone(b)
		other[i/8] ^= 1 << (i % 8)
		c := sum.Of(other)
		if j, ok := seen[c]; ok {
			t.Errorf("turned bits %d and %d have one checksum", i, j)
		}
		seen[c] = i
	}
}

// Zeros leave a register of zeros as it is: it must begin with ones.
func TestCountsOfZeros(t *testing.T) {
	seen := map[uint32]int{}
	for n := range 2000 {
		c := sum.Of(make([]byte, n))
		if m, ok := seen[c]; ok {
			t.Errorf("%d and %d zeros have one checksum", m, n)
		}
		seen[c] = n
	}
}

func TestZerosBeforeAndBehind(t *testing.T) {
	for n := range 50 {
		zeros := make([]byte, n)
		before := append(bytes.Clone(zeros), "abc"...)
		behind := append([]byte("abc"), zeros...)
		if sum.Of(before) != literal(before) || sum.Of(zeros, []byte("abc")) != literal(before) {
			t.Errorf("Of %d zeros before abc: %08x, not %08x", n, sum.Of(before), literal(before))
		}
		if sum.Of(behind) != literal(behind) || sum.More(sum.Of([]byte("abc")), zeros) != literal(behind) {
			t.Errorf("Of %d zeros behind abc: %08x, not %08x", n, sum.Of(behind), literal(behind))
		}
	}
}

// R3 and R4

// TestArgumentsStay: neither the bytes, nor their unused capacity, nor the list of parts is written to.
func TestArgumentsStay(t *testing.T) {
	whole := noise(60)
	before := bytes.Clone(whole)
	parts := [][]byte{whole[:10], whole[20:20], whole[30:40]}
	list := append(make([][]byte, 0, 6), parts...)
	first := sum.Of(list...)
	more := sum.More(first, whole[:50])
	if !bytes.Equal(whole, before) {
		t.Error("the bytes of an argument have changed")
	}
	for i := range list {
		if !bytes.Equal(list[i], parts[i]) || len(list[i]) != len(parts[i]) {
			t.Errorf("part %d of the list has changed", i)
		}
	}
	for i, p := range list[:cap(list)][len(list):] {
		if p != nil {
			t.Errorf("something stands %d behind the list of parts", i)
		}
	}
	if sum.Of(list...) != first || sum.More(first, whole[:50]) != more {
		t.Error("the same call answers otherwise")
	}
}

// What lies behind the end of a part is not of the data.
func TestUnusedCapacityIsNotRead(t *testing.T) {
	whole := []byte("123456789 and more")
	if c := sum.Of(whole[:4], whole[4:9]); c != 0xE3069283 {
		t.Errorf("Of parts with unused capacity: %08x", c)
	}
}
