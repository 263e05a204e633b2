package wire

import (
	"math"
	"testing"

	"antipode/bits"
)

// of gives the bytes of numbers, which are written the same whatever holds them.
func of(ns ...int64) []byte {
	var b []byte
	for _, n := range ns {
		b = bits.Var(b, bits.Zig(n))
	}
	return b
}

// fits fails unless a number from least to most goes to bytes and back, among others, and no other goes back.
func fits[N signed](t *testing.T, least, most int64) {
	t.Helper()
	for _, n := range []int64{
		math.MinInt64, math.MinInt32 - 1, math.MinInt32, -32769, -32768, -129, -128, -1, 0, 1,
		127, 128, 255, 256, 32767, 32768, math.MaxUint32, math.MaxInt32, math.MaxInt32 + 1, 1 << 32, 1<<32 + 1, 1 << 62, math.MaxInt64,
	} {
		var first, it, last N
		f := numbers(&first, &it, &last)
		b := of(5, n, -6)
		rest, ok := f.take(append(b, 77))
		if want := least <= n && n <= most; ok != want {
			t.Errorf("%d from %d to %d: %v", n, least, most, ok)
		} else if !want && rest != nil {
			t.Errorf("%d from %d to %d: %v is left", n, least, most, rest)
		} else if want && (first != 5 || int64(it) != n || last != -6 || string(rest) != "\x4d" || string(f.put(nil)) != string(b)) {
			t.Errorf("%d from %d to %d: %d %d %d, %v is left", n, least, most, first, it, last, rest)
		}
	}
}

// P14.2: on a machine whose ints have 32 bits, most fields are smaller than what a number may be.
func TestNumbersThatDoNotFit(t *testing.T) {
	fits[int8](t, math.MinInt8, math.MaxInt8)
	fits[int16](t, math.MinInt16, math.MaxInt16)
	fits[int32](t, math.MinInt32, math.MaxInt32)
	fits[int64](t, math.MinInt64, math.MaxInt64)
	fits[int](t, math.MinInt, math.MaxInt)
}
