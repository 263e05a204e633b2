package wire

import (
	"antipode/api"
	"antipode/bits"
	"antipode/stamp"
)

const (
	maxList   = 1 << 16 // elements of a list that is read
	setSize   = 2       // bytes of a set
	stampSize = 16      // bytes of a stamp
)

// field is a place in a value that goes to bytes and back. One field serves both ways, so that what is read can't part from what is written.
type field struct {
	put  func(b []byte) []byte                 // returns b with the field behind it
	take func(b []byte) (rest []byte, ok bool) // fills the field from the beginning of b, and returns what is left to read on
}

// signed is the types of numbers.
type signed interface {
	~int | ~int8 | ~int16 | ~int32 | ~int64
}

// row is fields one behind another.
func row(fs ...field) field {
	put := func(b []byte) []byte {
		for _, f := range fs {
			b = f.put(b)
		}
		return b
	}
	take := func(b []byte) (rest []byte, ok bool) {
		for _, f := range fs {
			if b, ok = f.take(b); !ok {
				return nil, false
			}
		}
		return b, true
	}
	return field{put, take}
}

// mark is a byte that stands ahead of a value and is no part of it.
func mark(m byte) field {
	put := func(b []byte) []byte {
		return append(b, m)
	}
	take := func(b []byte) (rest []byte, ok bool) {
		if len(b) == 0 || b[0] != m {
			return nil, false
		}
		return b[1:], true
	}
	return field{put, take}
}

// flag is a byte 0 or 1.
func flag(to *bool) field {
	put := func(b []byte) []byte {
		if *to {
			return append(b, 1)
		}
		return append(b, 0)
	}
	take := func(b []byte) (rest []byte, ok bool) {
		if len(b) == 0 || b[0] > 1 {
			return nil, false
		}
		*to = b[0] == 1
		return b[1:], true
	}
	return field{put, take}
}

// numbers is numbers one behind another.
func numbers[N signed](to ...*N) field {
	put := func(b []byte) []byte {
		for _, n := range to {
			b = append(b, bits.Var(nil, bits.Zig(int64(*n)))...)
		}
		return b
	}
	take := func(b []byte) (rest []byte, ok bool) {
		for _, n := range to {
			u, size, e := bits.TakeVar(b)
			if e != api.OK {
				return nil, false
			}
			// An int has 32 bits on some machines.
			*n = N(bits.Zag(u))
			if int64(*n) != bits.Zag(u) {
				return nil, false
			}
			b = b[size:]
		}
		return b, true
	}
	return field{put, take}
}

// sets is sets one behind another.
func sets(to ...*api.Set) field {
	put := func(b []byte) []byte {
		for _, s := range to {
			// It can't be refused: all sets have room in so many bytes.
			p, _ := bits.Put(nil, uint64(*s), setSize)
			b = append(b, p...)
		}
		return b
	}
	take := func(b []byte) (rest []byte, ok bool) {
		for _, s := range to {
			u, e := bits.Get(b, 0, setSize)
			if e != api.OK {
				return nil, false
			}
			*s = api.Set(u)
			b = b[setSize:]
		}
		return b, true
	}
	return field{put, take}
}

// moment is a stamp.
func moment(to *api.Stamp) field {
	put := func(b []byte) []byte {
		return append(b, stamp.Bytes(*to)...)
	}
	take := func(b []byte) (rest []byte, ok bool) {
		s, e := stamp.Take(b[:min(stampSize, len(b))])
		if e != api.OK {
			return nil, false
		}
		*to = s
		return b[stampSize:], true
	}
	return field{put, take}
}

// text is a string.
func text(to *string) field {
	put := func(b []byte) []byte {
		return append(b, bits.Text(nil, []byte(*to))...)
	}
	// Not bits.TakeText: that refuses texts that bits.Text writes.
	take := func(b []byte) (rest []byte, ok bool) {
		size, head, e := bits.TakeVar(b)
		if e != api.OK || size > uint64(len(b)-head) {
			return nil, false
		}
		end := head + int(size)
		*to = string(b[head:end])
		return b[end:], true
	}
	return field{put, take}
}

// list is how many elements there are, and the elements.
func list[T any](to *[]T, of func(*T) field) field {
	put := func(b []byte) []byte {
		count := len(*to)
		b = numbers(&count).put(b)
		for _, v := range *to {
			b = of(&v).put(b)
		}
		return b
	}
	take := func(b []byte) (rest []byte, ok bool) {
		count := 0
		b, ok = numbers(&count).take(b)
		if !ok || count < 0 || count > maxList {
			return nil, false
		}
		// No room is made ahead: the count may tell of elements that are not there.
		for range count {
			var v T
			if b, ok = of(&v).take(b); !ok {
				return nil, false
			}
			*to = append(*to, v)
		}
		return b, true
	}
	return field{put, take}
}

// given is a flag, and behind it what there is only if the flag is set.
func given(is *bool, f field) field {
	put := func(b []byte) []byte {
		b = flag(is).put(b)
		if !*is {
			return b
		}
		return f.put(b)
	}
	take := func(b []byte) (rest []byte, ok bool) {
		b, ok = flag(is).take(b)
		if !ok || !*is {
			return b, ok
		}
		return f.take(b)
	}
	return field{put, take}
}
