package stamp_test

import (
	"bytes"
	"math"
	"math/big"
	"testing"

	"antipode/api"
	"antipode/bits"
	"antipode/stamp"
)

// numbers lists, rising, the numbers at which an int64 may be taken for another: around 0, around the powers of two that its bytes and halves end at, and both ends.
func numbers() []int64 {
	return []int64{
		math.MinInt64, math.MinInt64 + 1, -1 << 32, -1<<32 + 1, -257, -256, -255, -2, -1,
		0, 1, 2, 255, 256, 257, 1<<32 - 1, 1 << 32, math.MaxInt64 - 1, math.MaxInt64,
	}
}

// stamps lists, rising, the stamps of all pairs of numbers: those that differ in one field alone, and those whose fields pull opposite ways.
func stamps() []api.Stamp {
	var l []api.Stamp
	for _, wall := range numbers() {
		for _, tie := range numbers() {
			l = append(l, api.Stamp{Wall: wall, Tie: tie})
		}
	}
	return l
}

// tries lists, rising, the tries whose fields are each one of few numbers.
func tries() []api.Try {
	few := []int{math.MinInt, -1, 0, 1, math.MaxInt}
	var l []api.Try
	for _, node := range few {
		for _, life := range few {
			for _, seq := range few {
				for _, attempt := range few {
					l = append(l, api.Try{Node: node, Life: life, Seq: seq, Attempt: attempt})
				}
			}
		}
	}
	return l
}

// P6.1

func TestLessCases(t *testing.T) {
	cases := []struct {
		a, b api.Stamp
		want bool
	}{
		{api.Stamp{}, api.Stamp{}, false},
		{api.Stamp{Wall: 3, Tie: 4}, api.Stamp{Wall: 3, Tie: 4}, false},
		{api.Stamp{Wall: 3, Tie: 4}, api.Stamp{Wall: 4, Tie: 4}, true},
		{api.Stamp{Wall: 3, Tie: 4}, api.Stamp{Wall: 3, Tie: 5}, true},
		{api.Stamp{Wall: 3, Tie: 9}, api.Stamp{Wall: 4, Tie: 1}, true},
		{api.Stamp{Wall: 4, Tie: 1}, api.Stamp{Wall: 3, Tie: 9}, false},
		{api.Stamp{Wall: -1, Tie: 9}, api.Stamp{}, true},
		{api.Stamp{Tie: -1}, api.Stamp{}, true},
		{api.Stamp{Wall: math.MinInt64}, api.Stamp{Wall: math.MaxInt64}, true},
		{api.Stamp{Tie: math.MaxInt64}, api.Stamp{Tie: math.MinInt64}, false},
	}
	for _, c := range cases {
		if stamp.Less(c.a, c.b) != c.want {
			t.Errorf("Less of %v and %v is not %v", c.a, c.b, c.want)
		}
	}
}

func TestLessIsAnOrder(t *testing.T) {
	l := stamps()
	for i, a := range l {
		for k, b := range l {
			if stamp.Less(a, b) != (i < k) {
				t.Errorf("Less of %v and %v", a, b)
			}
		}
	}
}

func TestMax(t *testing.T) {
	l := stamps()
	for i, a := range l {
		for k, b := range l {
			if m := stamp.Max(a, b); m != l[max(i, k)] {
				t.Errorf("Max of %v and %v: %v", a, b, m)
			}
		}
	}
}

func TestLessTryCases(t *testing.T) {
	cases := []struct {
		a, b api.Try
		want bool
	}{
		{api.Try{}, api.Try{}, false},
		{api.Try{Node: 1, Life: 2, Seq: 3, Attempt: 4}, api.Try{Node: 1, Life: 2, Seq: 3, Attempt: 4}, false},
		{api.Try{Node: 1, Life: 2, Seq: 3, Attempt: 4}, api.Try{Node: 1, Life: 2, Seq: 3, Attempt: 5}, true},
		{api.Try{Node: 1, Life: 2, Seq: 3, Attempt: 4}, api.Try{Node: 1, Life: 2, Seq: 4, Attempt: 4}, true},
		{api.Try{Node: 1, Life: 2, Seq: 3, Attempt: 4}, api.Try{Node: 1, Life: 3, Seq: 3, Attempt: 4}, true},
		{api.Try{Node: 1, Life: 2, Seq: 3, Attempt: 4}, api.Try{Node: 2, Life: 2, Seq: 3, Attempt: 4}, true},
		{api.Try{Node: 1, Life: 9, Seq: 9, Attempt: 9}, api.Try{Node: 2}, true},
		{api.Try{Node: 2}, api.Try{Node: 1, Life: 9, Seq: 9, Attempt: 9}, false},
		{api.Try{Life: 1, Seq: 9, Attempt: 9}, api.Try{Life: 2}, true},
		{api.Try{Seq: 1, Attempt: 9}, api.Try{Seq: 2}, true},
		{api.Try{Node: -1}, api.Try{}, true},
	}
	for _, c := range cases {
		if stamp.LessTry(c.a, c.b) != c.want {
			t.Errorf("LessTry of %v and %v is not %v", c.a, c.b, c.want)
		}
	}
}

func TestLessTryIsAnOrder(t *testing.T) {
	l := tries()
	for i, a := range l {
		for k, b := range l {
			if stamp.LessTry(a, b) != (i < k) {
				t.Errorf("LessTry of %v and %v", a, b)
			}
		}
	}
}

// P6.2

func TestBytesCases(t *testing.T) {
	cases := []struct {
		s    api.Stamp
		want string
	}{
		{api.Stamp{}, "\x80\x00\x00\x00\x00\x00\x00\x00\x80\x00\x00\x00\x00\x00\x00\x00"},
		{api.Stamp{Wall: 0x0102030405060708, Tie: 9}, "\x81\x02\x03\x04\x05\x06\x07\x08\x80\x00\x00\x00\x00\x00\x00\x09"},
		{api.Stamp{Wall: 9, Tie: 0x0102030405060708}, "\x80\x00\x00\x00\x00\x00\x00\x09\x81\x02\x03\x04\x05\x06\x07\x08"},
		{api.Stamp{Wall: -1, Tie: -2}, "\x7f\xff\xff\xff\xff\xff\xff\xff\x7f\xff\xff\xff\xff\xff\xff\xfe"},
		{api.Stamp{Wall: math.MinInt64, Tie: math.MaxInt64}, "\x00\x00\x00\x00\x00\x00\x00\x00\xff\xff\xff\xff\xff\xff\xff\xff"},
		{api.Stamp{Wall: math.MaxInt64, Tie: math.MinInt64}, "\xff\xff\xff\xff\xff\xff\xff\xff\x00\x00\x00\x00\x00\x00\x00\x00"},
	}
	for _, c := range cases {
		if b := stamp.Bytes(c.s); string(b) != c.want {
			t.Errorf("Bytes of %v: %x", c.s, b)
		}
		if s, e := stamp.Take([]byte(c.want)); s != c.s || e != api.OK {
			t.Errorf("Take of %x: %v %d", c.want, s, e)
		}
	}
}

// The chapter gives the encoding by bits.Order, in the eight bytes that bits.Put writes.
func TestBytesAreOrders(t *testing.T) {
	for _, s := range stamps() {
		want, _ := bits.Put(nil, bits.Order(s.Wall), 8)
		want, _ = bits.Put(want, bits.Order(s.Tie), 8)
		if b := stamp.Bytes(s); !bytes.Equal(b, want) {
			t.Errorf("Bytes of %v: %x, not %x", s, b, want)
		}
	}
}

func TestBytesHaveTheOrderOfLess(t *testing.T) {
	l := stamps()
	for _, a := range l {
		for _, b := range l {
			if (bytes.Compare(stamp.Bytes(a), stamp.Bytes(b)) < 0) != stamp.Less(a, b) {
				t.Errorf("the bytes of %v and %v", a, b)
			}
		}
	}
}

func TestBytesThenTake(t *testing.T) {
	for _, s := range stamps() {
		if got, e := stamp.Take(stamp.Bytes(s)); got != s || e != api.OK {
			t.Errorf("Take of the bytes of %v: %v %d", s, got, e)
		}
	}
}

// Any 16 bytes are a stamp, and no others are the same one.
func TestTakeThenBytes(t *testing.T) {
	for i := range 16 {
		for c := range 256 {
			for _, fill := range []byte{0, 0x7f, 0x80, 0xff} {
				b := bytes.Repeat([]byte{fill}, 16)
				b[i] = byte(c)
				s, e := stamp.Take(b)
				if e != api.OK || !bytes.Equal(stamp.Bytes(s), b) {
					t.Errorf("Take of %x: %v %d", b, s, e)
				}
			}
		}
	}
}

func TestTakeErrors(t *testing.T) {
	if s, e := stamp.Take(nil); s != (api.Stamp{}) || e != api.ErrShort {
		t.Errorf("Take of nil: %v %d", s, e)
	}
	for _, n := range []int{0, 1, 7, 8, 9, 14, 15, 16, 17, 18, 24, 31, 32, 33, 1 << 16, 1<<16 + 16} {
		want := api.OK
		if n < 16 {
			want = api.ErrShort
		} else if n > 16 {
			want = api.ErrLong
		}
		for _, fill := range []byte{0, 1, 0xff} {
			s, e := stamp.Take(bytes.Repeat([]byte{fill}, n))
			if e != want || e != api.OK && s != (api.Stamp{}) {
				t.Errorf("Take of %d bytes %d: %v %d", n, fill, s, e)
			}
		}
	}
}

// What lies in the unused capacity is not part of b.
func TestTakeStaysInside(t *testing.T) {
	whole := stamp.Bytes(api.Stamp{Wall: 5, Tie: 6})
	whole = append(whole, "tail"...)
	kept := bytes.Clone(whole)
	if s, e := stamp.Take(whole[:15]); s != (api.Stamp{}) || e != api.ErrShort {
		t.Errorf("Take of 15 bytes: %v %d", s, e)
	}
	if s, e := stamp.Take(whole[:16]); s != (api.Stamp{Wall: 5, Tie: 6}) || e != api.OK {
		t.Errorf("Take of 16 bytes: %v %d", s, e)
	}
	if !bytes.Equal(whole, kept) {
		t.Errorf("Take wrote into its argument: %x", whole)
	}
}

func TestBytesAreNewMemory(t *testing.T) {
	s := api.Stamp{Wall: 5, Tie: 6}
	a, b := stamp.Bytes(s), stamp.Bytes(s)
	kept := bytes.Clone(b)
	for i := range a[:cap(a)] {
		a[:cap(a)][i] = 0xee
	}
	if !bytes.Equal(b, kept) || !bytes.Equal(stamp.Bytes(s), kept) {
		t.Errorf("two results share memory: %x", b)
	}
}

// P6.3

func TestTieCases(t *testing.T) {
	cases := []struct {
		node, life, seq, attempt int
		want                     int64
	}{
		{1, 0, 0, 0, 1 << 48},
		{1, 0, 0, 1, 1<<48 + 1},
		{1, 0, 1, 0, 1<<48 + 1<<4},
		{1, 1, 0, 0, 1<<48 + 1<<28},
		{2, 0, 0, 0, 2 << 48},
		{3, 5, 7, 11, 3<<48 + 5<<28 + 7<<4 + 11},
		{1, 1<<20 - 1, 0, 0, 2<<48 - 1<<28},
		{1, 0, 1<<24 - 1, 0, 1<<48 + 1<<28 - 1<<4},
		{1, 0, 0, 15, 1<<48 + 15},
		{9, 1<<20 - 1, 1<<24 - 1, 15, 10<<48 - 1},
	}
	for _, c := range cases {
		if v, e := stamp.Tie(c.node, c.life, c.seq, c.attempt); v != c.want || e != api.OK {
			t.Errorf("Tie(%d, %d, %d, %d): %d %d, not %d", c.node, c.life, c.seq, c.attempt, v, e, c.want)
		}
	}
}

// ends is what an argument of Tie may be at the least and at the most.
type ends struct{ least, most int }

// tieEnds gives the ends of node, life, seq and attempt, in this order.
func tieEnds() [4]ends {
	return [4]ends{{1, 9}, {0, 1<<20 - 1}, {0, 1<<24 - 1}, {0, 15}}
}

// choices lists numbers that an argument with these ends may be, and numbers that it may not be.
func choices(r ends) []int {
	return []int{
		r.least, r.least + 1, (r.least + r.most) / 2, r.most - 1, r.most,
		r.least - 1, r.most + 1, r.least - 1<<40, r.most + 1<<40, 1 << 60, math.MinInt, math.MaxInt,
	}
}

func outside(args [4]int) bool {
	for i, r := range tieEnds() {
		if args[i] < r.least || args[i] > r.most {
			return true
		}
	}
	return false
}

// allTies calls f for all quadruples of choices.
func allTies(f func(args [4]int)) {
	r := tieEnds()
	for _, node := range choices(r[0]) {
		for _, life := range choices(r[1]) {
			for _, seq := range choices(r[2]) {
				for _, attempt := range choices(r[3]) {
					f([4]int{node, life, seq, attempt})
				}
			}
		}
	}
}

func TestTieAtAndBeyondTheEnds(t *testing.T) {
	allTies(func(a [4]int) {
		want := int64(a[0])*(1<<48) + int64(a[1])*(1<<28) + int64(a[2])*(1<<4) + int64(a[3])
		wantErr := api.OK
		if outside(a) {
			want, wantErr = 0, api.ErrArg
		}
		if v, e := stamp.Tie(a[0], a[1], a[2], a[3]); v != want || e != wantErr {
			t.Errorf("Tie%v: %d %d, not %d %d", a, v, e, want, wantErr)
		}
	})
}

func TestDifferentArgumentsHaveDifferentTies(t *testing.T) {
	seen := map[int64][4]int{}
	allTies(func(a [4]int) {
		v, e := stamp.Tie(a[0], a[1], a[2], a[3])
		if e != api.OK {
			return
		}
		if b, is := seen[v]; is && b != a {
			t.Errorf("Tie of %v and of %v: %d", a, b, v)
		}
		seen[v] = a
	})
	if len(seen) != 5*5*5*5 {
		t.Errorf("%d Ties", len(seen))
	}
}

// R4: the order in which a map is gone through is another one each time.
func TestTieIsTheSameEachTime(t *testing.T) {
	for range 200 {
		if v, e := stamp.Tie(9, 1<<20-1, 5, 15); v != 9<<48+(1<<20-1)<<28+5<<4+15 || e != api.OK {
			t.Fatalf("Tie: %d %d", v, e)
		}
		if v, e := stamp.Tie(9, 1<<20-1, 5, 16); v != 0 || e != api.ErrArg {
			t.Fatalf("Tie of attempt 16: %d %d", v, e)
		}
	}
}

// P6.4

func TestReadCases(t *testing.T) {
	cases := []struct {
		wall, reading, want int64
	}{
		{0, 0, 0}, {0, 7, 7}, {7, 5, 7}, {7, 7, 7}, {7, 8, 8},
		{7, -1, 7}, {0, -1, 0}, {0, math.MinInt64, 0},
		{-5, -7, 0}, {-5, -3, 0}, {-5, 0, 0}, {-5, 3, 3}, {math.MinInt64, math.MinInt64, 0},
		{0, api.MaxWall - 1, api.MaxWall - 1}, {0, api.MaxWall, api.MaxWall}, {0, api.MaxWall + 1, api.MaxWall},
		{0, math.MaxInt64, api.MaxWall}, {-5, math.MaxInt64, api.MaxWall},
		{api.MaxWall, 3, api.MaxWall}, {api.MaxWall, math.MaxInt64, api.MaxWall},
		{api.MaxWall + 5, 3, api.MaxWall + 5}, {api.MaxWall + 5, api.MaxWall + 9, api.MaxWall + 5},
		{math.MaxInt64, 3, math.MaxInt64}, {math.MaxInt64, math.MaxInt64, math.MaxInt64},
	}
	for _, c := range cases {
		for _, offset := range []int64{0, 3, -3, math.MinInt64, math.MaxInt64} {
			was := stamp.Clock{Wall: c.wall, Offset: offset}
			if got := was.Read(c.reading); got != (stamp.Clock{Wall: c.want, Offset: offset}) {
				t.Errorf("%v after a reading of %d: %v", was, c.reading, got)
			}
			if was != (stamp.Clock{Wall: c.wall, Offset: offset}) {
				t.Errorf("Read of %d changed the clock to %v", c.reading, was)
			}
		}
	}
}

func TestClockNeverGoesBack(t *testing.T) {
	for _, wall := range numbers() {
		c := stamp.Clock{Wall: wall, Offset: 3}
		for _, a := range numbers() {
			for _, b := range numbers() {
				next := c.Read(a).Read(b)
				if next.Wall < c.Wall || next.Wall < 0 || next != c.Read(b).Read(a) {
					t.Fatalf("%v after the readings %d and %d: %v", c, a, b, next)
				}
				if c.Ripe(a) && !next.Ripe(a) {
					t.Fatalf("%v is ripe for %d, %v is not", c, a, next)
				}
			}
		}
	}
}

func TestLimitCases(t *testing.T) {
	const most = 1 << 62
	cases := []struct {
		wall, offset, want int64
		e                  api.Errno
	}{
		{0, 0, 1, api.OK}, {7, 3, 11, api.OK}, {api.MaxWall, 3, api.MaxWall + 4, api.OK},
		{-1, 0, 0, api.ErrRange}, {0, -1, 0, api.ErrRange}, {-1, -1, 0, api.ErrRange}, {-1, 5, 0, api.ErrRange},
		{5, -1, 0, api.ErrRange}, {math.MinInt64, math.MaxInt64, 0, api.ErrRange}, {math.MaxInt64, math.MinInt64, 0, api.ErrRange},
		{math.MinInt64, math.MinInt64, 0, api.ErrRange}, {math.MinInt64, 0, 0, api.ErrRange}, {0, math.MinInt64, 0, api.ErrRange},
		{most - 1, 0, most, api.OK}, {0, most - 1, most, api.OK}, {most / 2, most/2 - 1, most, api.OK}, {most - 2, 0, most - 1, api.OK},
		{most, 0, 0, api.ErrRange}, {0, most, 0, api.ErrRange}, {most / 2, most / 2, 0, api.ErrRange}, {most - 1, 1, 0, api.ErrRange},
		{math.MaxInt64, 0, 0, api.ErrRange}, {0, math.MaxInt64, 0, api.ErrRange}, {math.MaxInt64, 1, 0, api.ErrRange},
		{math.MaxInt64, math.MaxInt64, 0, api.ErrRange}, {most, most, 0, api.ErrRange},
	}
	for _, c := range cases {
		if v, e := (stamp.Clock{Wall: c.wall, Offset: c.offset}).Limit(); v != c.want || e != c.e {
			t.Errorf("Limit of %d and %d: %d %d, not %d %d", c.wall, c.offset, v, e, c.want, c.e)
		}
	}
}

// The sum of big numbers does not wrap round.
func TestLimitAgainstBigNumbers(t *testing.T) {
	l := append(numbers(), 1<<61-1, 1<<61, 1<<61+1, 1<<62-2, 1<<62-1, 1<<62, 1<<62+1)
	for _, wall := range l {
		for _, offset := range l {
			sum := new(big.Int).Add(big.NewInt(wall), big.NewInt(offset))
			sum.Add(sum, big.NewInt(1))
			want, wantErr := int64(0), api.ErrRange
			if wall >= 0 && offset >= 0 && sum.Cmp(big.NewInt(1<<62)) <= 0 {
				want, wantErr = sum.Int64(), api.OK
			}
			if v, e := (stamp.Clock{Wall: wall, Offset: offset}).Limit(); v != want || e != wantErr {
				t.Errorf("Limit of %d and %d: %d %d, not %d %d", wall, offset, v, e, want, wantErr)
			}
		}
	}
}

func TestRipe(t *testing.T) {
	l := numbers()
	for i, at := range l {
		for k, wall := range l {
			for _, offset := range []int64{0, 5, -5, math.MinInt64, math.MaxInt64} {
				if (stamp.Clock{Wall: at, Offset: offset}).Ripe(wall) != (i >= k) {
					t.Errorf("a clock at %d, with Offset %d: ripe for %d", at, offset, wall)
				}
			}
		}
	}
}

// What follows

// readings lists all that a clock with this Offset may read at the true time now.
func readings(now, offset int64) []stamp.Clock {
	var l []stamp.Clock
	for ahead := int64(0); ahead <= offset; ahead++ {
		l = append(l, stamp.Clock{Offset: offset}.Read(now+ahead))
	}
	return l
}

// An answer at a ripe time comes before each transaction that begins later by the true time, whichever clocks tell it.
func TestLaterTransactionsHaveGreaterTimes(t *testing.T) {
	const far = 6
	check := func(teller, beginner stamp.Clock) {
		limit, e := beginner.Limit()
		for wall := int64(0); teller.Ripe(wall); wall++ {
			if e != api.OK || limit <= wall {
				t.Errorf("answered for %d by %v, begun at %v: %d %d", wall, teller, beginner, limit, e)
			}
		}
	}
	for offset := range int64(4) {
		for answered := range int64(far) {
			for begun := answered; begun < far; begun++ {
				for _, teller := range readings(answered, offset) {
					for _, beginner := range readings(begun, offset) {
						check(teller, beginner)
					}
				}
			}
		}
	}
}
