package frame_test

import (
	"bytes"
	"encoding/binary"
	"hash/crc32"
	"math"
	"math/rand"
	"testing"

	"antipode/api"
	"antipode/frame"
)

// literal gives what P3.1 puts behind b, built with another hand's numbers and checksums; of any length.
func literal(rec string) []byte {
	b := binary.BigEndian.AppendUint32(nil, uint32(len(rec)))
	c := crc32.Checksum(append(bytes.Clone(b), rec...), crc32.MakeTable(crc32.Castagnoli))
	return append(binary.BigEndian.AppendUint32(b, c), rec...)
}

// noise gives n bytes that look like none in particular, always the same ones.
func noise(n int) string {
	b := make([]byte, n)
	rand.New(rand.NewSource(int64(n))).Read(b)
	return string(b)
}

// file gives the records one behind the other, and the offset at which each ends.
func file(recs []string) (b []byte, ends []int) {
	for _, rec := range recs {
		b = append(b, literal(rec)...)
		ends = append(ends, len(b))
	}
	return b, ends
}

// withTail gives a slice whose unused capacity can be looked at: behind its end lie the bytes of tail.
func withTail(s, tail string) (b, whole []byte) {
	whole = append([]byte(s), tail...)
	return whole[:len(s)], whole
}

func same(recs [][]byte, want []string) bool {
	if len(recs) != len(want) {
		return false
	}
	for i := range recs {
		if string(recs[i]) != want[i] {
			return false
		}
	}
	return true
}

// refused asks Next, and tells whether it answers want and zero values beside it.
func refused(t *testing.T, what string, b []byte, at int, want api.Errno) {
	t.Helper()
	if rec, next, e := frame.Next(b, at); rec != nil || next != 0 || e != want {
		t.Errorf("Next of %s, at %d: %d bytes, %d %d, not %d", what, at, len(rec), next, e, want)
	}
}

// P3.1

func TestPutBytes(t *testing.T) {
	cases := []struct{ b, rec, want string }{
		{"", "", "\x00\x00\x00\x00\x48\x67\x4b\xc7"},
		{"ab", "", "ab\x00\x00\x00\x00\x48\x67\x4b\xc7"},
		{"", "abc", "\x00\x00\x00\x03\x8f\x33\x7f\x99abc"},
		{"ab", "abc", "ab\x00\x00\x00\x03\x8f\x33\x7f\x99abc"},
	}
	for _, c := range cases {
		if b, e := frame.Put([]byte(c.b), []byte(c.rec)); string(b) != c.want || e != api.OK {
			t.Errorf("Put(%q, %q): %q %d, not %q", c.b, c.rec, b, e, c.want)
		}
	}
	if b, e := frame.Put(nil, nil); string(b) != cases[0].want || e != api.OK {
		t.Errorf("Put of nil behind nil: %q %d", b, e)
	}
}

func TestPutLengths(t *testing.T) {
	for _, n := range []int{0, 1, 2, 3, 4, 7, 8, 9, 127, 128, 255, 256, 257, 65535, 65536, api.MaxRecord - 1, api.MaxRecord} {
		rec := noise(n)
		for _, b := range []string{"", "x", noise(100)} {
			got, e := frame.Put([]byte(b), []byte(rec))
			if string(got) != b+string(literal(rec)) || e != api.OK {
				t.Errorf("Put of %d bytes behind %d: %d bytes, %d", n, len(b), len(got), e)
			}
		}
	}
}

func TestPutTooLong(t *testing.T) {
	for _, n := range []int{api.MaxRecord + 1, api.MaxRecord + 2, 2 * api.MaxRecord, 1 << 24} {
		for _, b := range []string{"", "ab"} {
			if got, e := frame.Put([]byte(b), make([]byte, n)); got != nil || e != api.ErrLong {
				t.Errorf("Put of %d bytes: %d bytes, %d", n, len(got), e)
			}
		}
	}
}

// P3.2, Next

func TestNextWalks(t *testing.T) {
	recs := []string{"one", "", "three", "", "", noise(8), noise(1000), "\x00"}
	b, ends := file(recs)
	at := 0
	for i, want := range recs {
		rec, next, e := frame.Next(b, at)
		if string(rec) != want || next != ends[i] || e != api.OK {
			t.Errorf("Next at %d: %q %d %d, not %q %d", at, rec, next, e, want, ends[i])
		}
		at = ends[i]
	}
	refused(t, "what follows the last record", b, at, api.ErrShort)
}

// Neither what lies before the record nor what follows it counts.
func TestNextInTheMidst(t *testing.T) {
	for _, rec := range []string{"", "abc", noise(300)} {
		for at := range 20 {
			for _, tail := range []string{"", "\x00", noise(50)} {
				b := append([]byte(noise(at)), literal(rec)...)
				end := len(b)
				b = append(b, tail...)
				got, next, e := frame.Next(b, at)
				if string(got) != rec || next != end || e != api.OK {
					t.Errorf("Next at %d of %d bytes: %d bytes, %d %d", at, len(rec), len(got), next, e)
				}
			}
		}
	}
}

func TestNextOfTheLongest(t *testing.T) {
	for _, n := range []int{api.MaxRecord - 1, api.MaxRecord} {
		rec := noise(n)
		b := append([]byte("xyz"), literal(rec)...)
		if got, next, e := frame.Next(b, 3); string(got) != rec || next != len(b) || e != api.OK {
			t.Errorf("Next of %d bytes: %d bytes, %d %d", n, len(got), next, e)
		}
		refused(t, "the longest, but for its last byte", b[:len(b)-1], 3, api.ErrShort)
	}
}

func TestNextOffsets(t *testing.T) {
	b, _ := file([]string{"abc", ""})
	for _, at := range []int{-1, -2, -8, math.MinInt, math.MinInt + 8, len(b) + 1, len(b) + 8, math.MaxInt - 8, math.MaxInt} {
		refused(t, "two records", b, at, api.ErrArg)
	}
	for _, at := range []int{len(b), len(b) - 1, len(b) - 7} {
		refused(t, "two records", b, at, api.ErrShort)
	}
	for _, none := range [][]byte{nil, {}} {
		refused(t, "no bytes", none, 0, api.ErrShort)
		for _, at := range []int{-1, 1, math.MinInt, math.MaxInt} {
			refused(t, "no bytes", none, at, api.ErrArg)
		}
	}
}

func TestNextCutOff(t *testing.T) {
	for _, rec := range []string{"", "a", "abc", noise(300)} {
		for _, before := range []string{"", "before"} {
			b := append([]byte(before), literal(rec)...)
			for n := len(before); n < len(b); n++ {
				refused(t, "a record that is cut off", b[:n], len(before), api.ErrShort)
			}
		}
	}
}

func TestNextTooLong(t *testing.T) {
	for _, size := range []uint32{api.MaxRecord + 1, api.MaxRecord + 2, 1 << 24, math.MaxInt32, 1 << 31, math.MaxUint32} {
		b := binary.BigEndian.AppendUint32(nil, size)
		refused(t, "a length without a checksum", b, 0, api.ErrShort)
		refused(t, "a length and a part of a checksum", append(b, 1, 2, 3), 0, api.ErrShort)
		refused(t, "a length and a wrong checksum", append(b, 1, 2, 3, 4), 0, api.ErrLong)
		refused(t, "too few bytes", append(b, noise(50)...), 0, api.ErrLong)
	}
	// The whole record, and its checksum is right: it is too long all the same.
	for _, n := range []int{api.MaxRecord + 1, 1 << 21} {
		refused(t, "a whole record", append([]byte("xyz"), literal(noise(n))...), 3, api.ErrLong)
	}
}

// A length of MaxRecord is not too long, whatever else is wrong.
func TestNextLengthAtTheLimit(t *testing.T) {
	head := literal(noise(api.MaxRecord))[:8]
	refused(t, "a head alone", head, 0, api.ErrShort)
	refused(t, "a head with few bytes", append(head, "abc"...), 0, api.ErrShort)
	refused(t, "a head with other bytes", append(head, make([]byte, api.MaxRecord)...), 0, api.ErrSum)
}

// A record that is cut off is short, also if its checksum is wrong.
func TestNextShortBeforeSum(t *testing.T) {
	b := literal("abcdef")
	b[5] ^= 0x10
	refused(t, "a wrong checksum", b, 0, api.ErrSum)
	for n := range b {
		refused(t, "a wrong checksum, cut off", b[:n], 0, api.ErrShort)
	}
}

func TestNextChangedBits(t *testing.T) {
	for _, rec := range []string{"", "a", "abc", noise(40)} {
		for i := range 8 * len(literal(rec)) {
			b := append(literal(rec), noise(400)...)
			b[i/8] ^= 1 << (i % 8)
			// A higher bit of the length makes a record that is longer than what there is.
			size := binary.BigEndian.Uint32(b)
			want := api.ErrSum
			if size > api.MaxRecord {
				want = api.ErrLong
			} else if int(size) > len(b)-8 {
				want = api.ErrShort
			}
			refused(t, "a record with a turned bit", b, 0, want)
		}
	}
}

func TestNextChangedBytes(t *testing.T) {
	for i := range literal("abc") {
		for x := 1; x < 256; x++ {
			b := append([]byte("before"), literal("abc")...)
			b[6+i] ^= byte(x)
			if rec, next, e := frame.Next(b, 6); rec != nil || next != 0 || e == api.OK || i >= 4 && e != api.ErrSum {
				t.Errorf("Next of a record whose byte %d is %d: %q %d %d", i, b[6+i], rec, next, e)
			}
		}
	}
}

// The checksum is over the length too: one that is over the data alone is wrong.
func TestSumCoversTheLength(t *testing.T) {
	for _, rec := range []string{"", "abc"} {
		b := literal(rec)
		binary.BigEndian.PutUint32(b[4:], crc32.Checksum([]byte(rec), crc32.MakeTable(crc32.Castagnoli)))
		refused(t, "a checksum of the data alone", b, 0, api.ErrSum)
	}
	// Zeros are no record, although the checksum of no bytes is 0.
	refused(t, "zeros", make([]byte, 16), 0, api.ErrSum)
	// Zeros at the end are of the data: a length that leaves one out is wrong.
	b := literal("ab\x00")
	b[3] = 2
	refused(t, "a record with a lesser length", b, 0, api.ErrSum)
}

func TestUnusedCapacityIsNotRead(t *testing.T) {
	whole := string(literal("abc"))
	for n := range len(whole) {
		b, _ := withTail(whole[:n], whole[n:])
		refused(t, "a record that ends in unused capacity", b, 0, api.ErrShort)
		refused(t, "a record in unused capacity", b, n+1, api.ErrArg)
		if recs, good := frame.Scan(b); len(recs) != 0 || good != 0 {
			t.Errorf("Scan reads %d bytes behind the end: %q %d", len(whole)-n, recs, good)
		}
	}
}

func TestPutThenNext(t *testing.T) {
	for n := range 300 {
		b, e := frame.Put([]byte("head"), []byte(noise(n)))
		if e != api.OK {
			t.Fatalf("Put of %d bytes: %d", n, e)
		}
		rec, next, e := frame.Next(append(bytes.Clone(b), "tail"...), 4)
		if string(rec) != noise(n) || next != len(b) || e != api.OK {
			t.Errorf("Next of %d bytes: %d bytes, %d %d", n, len(rec), next, e)
		}
	}
}

// P3.2, Scan, and what follows

func TestScanOfNothing(t *testing.T) {
	for _, b := range [][]byte{nil, {}, {0}, make([]byte, 7), make([]byte, 8), make([]byte, 100), []byte(noise(100)), bytes.Repeat([]byte{0xFF}, 100)} {
		if recs, good := frame.Scan(b); len(recs) != 0 || good != 0 {
			t.Errorf("Scan of %v: %q %d", b, recs, good)
		}
	}
}

func TestScanCutOff(t *testing.T) {
	for _, recs := range [][]string{{""}, {"abc"}, {"one", "", "three"}, {"", "", ""}, {noise(300), "x", noise(8), "", noise(50)}} {
		b, ends := file(recs)
		for n := range len(b) + 1 {
			whole, end := 0, 0
			for _, e := range ends {
				if e <= n {
					whole, end = whole+1, e
				}
			}
			if got, good := frame.Scan(b[:n]); !same(got, recs[:whole]) || good != end {
				t.Errorf("Scan of %d bytes of %d: %q %d, not %d records, %d", n, len(b), got, good, whole, end)
			}
		}
	}
}

// The first record that is none ends the scan, also if good ones follow.
func TestScanStopsAtTheFirstBad(t *testing.T) {
	recs := []string{"one", "", "three", noise(30), "five"}
	b, ends := file(recs)
	for i := range b {
		changed := bytes.Clone(b)
		changed[i] ^= 0x41
		whole, end := 0, 0
		for ends[whole] <= i {
			end = ends[whole]
			whole++
		}
		if got, good := frame.Scan(changed); !same(got, recs[:whole]) || good != end {
			t.Errorf("Scan with byte %d changed: %q %d, not %d records, %d", i, got, good, whole, end)
		}
	}
}

func TestScanStopsAtTheTooLong(t *testing.T) {
	b := append(literal("abc"), literal(noise(api.MaxRecord+1))...)
	b = append(b, literal("def")...)
	if recs, good := frame.Scan(b); !same(recs, []string{"abc"}) || good != 11 {
		t.Errorf("Scan with a record that is too long: %d records, %d", len(recs), good)
	}
}

func TestScanOfTheLongest(t *testing.T) {
	recs := []string{noise(api.MaxRecord), "", noise(api.MaxRecord - 1), "end"}
	b, _ := file(recs)
	got, good := frame.Scan(b)
	if !same(got, recs) || good != len(b) {
		t.Errorf("Scan of %d bytes: %d records, %d", len(b), len(got), good)
	}
}

func TestScanOfMany(t *testing.T) {
	recs := make([]string, 5000)
	for i := range recs {
		recs[i] = noise(i % 7)
	}
	b, _ := file(recs)
	if got, good := frame.Scan(b); !same(got, recs) || good != len(b) {
		t.Errorf("Scan of %d records: %d, %d", len(recs), len(got), good)
	}
}

// Scan is Next from the beginning on, whatever the bytes are.
func TestScanIsNext(t *testing.T) {
	r := rand.New(rand.NewSource(3))
	for range 2000 {
		var b []byte
		for range r.Intn(6) {
			b = append(b, literal(noise(r.Intn(20)))...)
		}
		for range r.Intn(3) {
			if len(b) > 0 {
				b[r.Intn(len(b))] = byte(r.Intn(256))
			}
		}
		var want []string
		at := 0
		for {
			rec, next, e := frame.Next(b, at)
			if e != api.OK {
				break
			}
			want, at = append(want, string(rec)), next
		}
		if recs, good := frame.Scan(b); !same(recs, want) || good != at {
			t.Fatalf("Scan of %v: %q %d, not %q %d", b, recs, good, want, at)
		}
	}
}

// R3 and R4

// TestPutCopies: the bytes of b, those in its unused capacity, and an earlier result stay as they are.
func TestPutCopies(t *testing.T) {
	for _, rec := range []string{"", "xyz", noise(100)} {
		b, whole := withTail("abc", noise(200))
		before := bytes.Clone(whole)
		one, _ := frame.Put(b, []byte(rec))
		kept := bytes.Clone(one)
		two, _ := frame.Put(b, []byte("other"))
		for i := range two {
			two[i] ^= 0xFF
		}
		if !bytes.Equal(whole, before) || !bytes.Equal(one, kept) {
			t.Errorf("Put of %d bytes writes into what it was given, or into its earlier result", len(rec))
		}
		for i := range one {
			one[i] ^= 0xFF
		}
		if !bytes.Equal(whole, before) {
			t.Errorf("Put of %d bytes shares b", len(rec))
		}
	}
}

func TestPutCopiesRecord(t *testing.T) {
	rec, whole := withTail("xyz", noise(60))
	before := bytes.Clone(whole)
	b, _ := frame.Put(nil, rec)
	for i := range b {
		b[i] ^= 0xFF
	}
	if !bytes.Equal(whole, before) {
		t.Errorf("Put shares the record: %q", whole)
	}
}

// A record that lies in b, or behind its end, must not be overtaken by what is written.
func TestPutOfAPieceOfItself(t *testing.T) {
	b, whole := withTail("abcdef", noise(60))
	for at := range 30 {
		rec := string(whole[at : at+12])
		if got, e := frame.Put(b, whole[at:at+12]); string(got) != "abcdef"+string(literal(rec)) || e != api.OK {
			t.Errorf("Put of what lies at %d of b: %q %d", at, got, e)
		}
	}
}

func TestPutTooLongChangesNothing(t *testing.T) {
	b, whole := withTail("abc", noise(60))
	before := bytes.Clone(whole)
	frame.Put(b, make([]byte, api.MaxRecord+1))
	if !bytes.Equal(whole, before) {
		t.Errorf("Put that fails writes: %q", whole)
	}
}

// TestReadersCopy: what is read shares no memory with b, nor with another record or answer.
func TestReadersCopy(t *testing.T) {
	want := []string{"one", "two", "", "four"}
	text, _ := file(want)
	b, whole := withTail(string(text), noise(60))
	before := bytes.Clone(whole)
	for i := range want {
		recs, _ := frame.Scan(b)
		kept, _ := frame.Scan(b)
		for j := range recs[i] {
			recs[i][j] ^= 0xFF
		}
		_ = append(recs[i], "XXXXXXXXXXXX"...)
		for j := range recs {
			if j != i && string(recs[j]) != want[j] {
				t.Errorf("records %d and %d of a scan share memory", i, j)
			}
		}
		if !bytes.Equal(whole, before) || !same(kept, want) {
			t.Errorf("record %d of a scan shares memory with the argument or another scan", i)
		}
	}
	rec, _, _ := frame.Next(b, 0)
	_ = append(rec, "XXXXXXXXXXXX"...)
	rec[0] = 'X'
	if !bytes.Equal(whole, before) {
		t.Errorf("Next shares its argument: %q", whole)
	}
}

func TestSameCallSameAnswer(t *testing.T) {
	want := []string{"one", "", "three"}
	b, _ := file(want)
	for range 3 {
		frame.Next(b, 3)
		frame.Put(b, []byte("more"))
		if recs, good := frame.Scan(b); !same(recs, want) || good != len(b) {
			t.Errorf("Scan answers otherwise: %q %d", recs, good)
		}
	}
}
