package wire_test

import (
	"math"
	"strings"

	"antipode/api"
	"antipode/wire"
)

// Where each field stands in the bytes of a base value, all counted by hand.

// place is a field of a T, and where its bytes begin in those of the base value.
type place[T any] struct {
	name string
	at   int
	of   func(*T) any
}

// listed is a list of a T, where its length stands in the bytes of the base value, and how many bytes its one element has there.
type listed[T any] struct {
	name     string
	at, size int
	fill     func(v *T, count int) // makes it a list of so many zero elements, or of none: nil
	empty    func(v *T)            // makes it an empty list that is not nil
}

// subject is what there is to tell of a T, and the calls for it.
type subject[T any] struct {
	name   string
	base   func() T // in memory of its own; each of its lists has one element, and all else is zero but Locked
	bytes  string   // of base
	places []place[T]
	lists  []listed[T]
	put    func(T) []byte
	take   func([]byte) (T, api.Errno)
	same   func(a, b T) bool
}

// zero is the bytes of a zero stamp.
const zero = "\x80\x00\x00\x00\x00\x00\x00\x00\x80\x00\x00\x00\x00\x00\x00\x00"

// listOf gives a list of a T, which to finds.
func listOf[T, E any](name string, at, size int, to func(*T) *[]E) listed[T] {
	fill := func(v *T, count int) {
		*to(v) = nil
		if count > 0 {
			*to(v) = make([]E, count)
		}
	}
	return listed[T]{name, at, size, fill, func(v *T) { *to(v) = []E{} }}
}

func cmds() subject[api.Cmd] {
	type c = api.Cmd
	return subject[c]{
		name: "Cmd",
		base: func() c { return c{Spans: []api.Span{{}}, Writes: []api.Write{{}}} },
		bytes: "\x01" + "\x00\x00\x00\x00" + "\x00\x00\x00\x00" + zero + "\x00" + "\x00" +
			"\x02" + "\x00\x00" + "\x02" + "\x00\x00\x00",
		places: []place[c]{
			{"Kind", 1, func(v *c) any { return &v.Kind }},
			{"Epoch", 2, func(v *c) any { return &v.Epoch }},
			{"Node", 3, func(v *c) any { return &v.Node }},
			{"Home", 4, func(v *c) any { return &v.Home }},
			{"By.Node", 5, func(v *c) any { return &v.By.Node }},
			{"By.Life", 6, func(v *c) any { return &v.By.Life }},
			{"By.Seq", 7, func(v *c) any { return &v.By.Seq }},
			{"By.Attempt", 8, func(v *c) any { return &v.By.Attempt }},
			{"At", 9, func(v *c) any { return &v.At }},
			{"Wall", 25, func(v *c) any { return &v.Wall }},
			{"Yes", 26, func(v *c) any { return &v.Yes }},
			{"Lo", 28, func(v *c) any { return &v.Spans[0].Lo }},
			{"Hi", 29, func(v *c) any { return &v.Spans[0].Hi }},
			{"Key", 31, func(v *c) any { return &v.Writes[0].Key }},
			{"Drop", 32, func(v *c) any { return &v.Writes[0].Drop }},
			{"Data", 33, func(v *c) any { return &v.Writes[0].Data }},
		},
		lists: []listed[c]{
			listOf("Spans", 27, 2, func(v *c) *[]api.Span { return &v.Spans }),
			listOf("Writes", 30, 3, func(v *c) *[]api.Write { return &v.Writes }),
		},
		put: wire.Cmd, take: wire.TakeCmd, same: wire.SameCmd,
	}
}

func basePart() api.Part {
	return api.Part{
		Cells:   []api.Cell{{Versions: []api.Version{{}}, Locked: true}},
		Records: []api.Outcome{{}},
		Done:    []api.Outcome{{}},
	}
}

func parts() subject[api.Part] {
	type p = api.Part
	return subject[p]{
		name: "Part",
		base: basePart,
		bytes: "\x02" + "\x00\x00" + zero + "\x00\x00" +
			"\x02" + "\x00" + "\x02" + zero + "\x00\x00" + "\x01" + "\x00\x00\x00\x00" + "\x00" + zero + "\x00\x00" +
			"\x02" + "\x00\x00\x00\x00" + zero + "\x00" +
			"\x02" + "\x00\x00\x00\x00" + zero + "\x00",
		places: []place[p]{
			{"Epoch", 1, func(v *p) any { return &v.Epoch }},
			{"Holder", 2, func(v *p) any { return &v.Holder }},
			{"Floor", 3, func(v *p) any { return &v.Floor }},
			{"Closed", 19, func(v *p) any { return &v.Closed }},
			{"Low", 20, func(v *p) any { return &v.Low }},
			{"Key", 22, func(v *p) any { return &v.Cells[0].Key }},
			{"Version.At", 24, func(v *p) any { return &v.Cells[0].Versions[0].At }},
			{"Version.Drop", 40, func(v *p) any { return &v.Cells[0].Versions[0].Drop }},
			{"Version.Data", 41, func(v *p) any { return &v.Cells[0].Versions[0].Data }},
			{"Lock.By.Node", 43, func(v *p) any { return &v.Cells[0].Lock.By.Node }},
			{"Lock.By.Life", 44, func(v *p) any { return &v.Cells[0].Lock.By.Life }},
			{"Lock.By.Seq", 45, func(v *p) any { return &v.Cells[0].Lock.By.Seq }},
			{"Lock.By.Attempt", 46, func(v *p) any { return &v.Cells[0].Lock.By.Attempt }},
			{"Lock.Home", 47, func(v *p) any { return &v.Cells[0].Lock.Home }},
			{"Lock.At", 48, func(v *p) any { return &v.Cells[0].Lock.At }},
			{"Lock.Drop", 64, func(v *p) any { return &v.Cells[0].Lock.Drop }},
			{"Lock.Data", 65, func(v *p) any { return &v.Cells[0].Lock.Data }},
			{"Record.By.Node", 67, func(v *p) any { return &v.Records[0].By.Node }},
			{"Record.By.Life", 68, func(v *p) any { return &v.Records[0].By.Life }},
			{"Record.By.Seq", 69, func(v *p) any { return &v.Records[0].By.Seq }},
			{"Record.By.Attempt", 70, func(v *p) any { return &v.Records[0].By.Attempt }},
			{"Record.At", 71, func(v *p) any { return &v.Records[0].At }},
			{"Record.Yes", 87, func(v *p) any { return &v.Records[0].Yes }},
			{"Done.By.Node", 89, func(v *p) any { return &v.Done[0].By.Node }},
			{"Done.By.Life", 90, func(v *p) any { return &v.Done[0].By.Life }},
			{"Done.By.Seq", 91, func(v *p) any { return &v.Done[0].By.Seq }},
			{"Done.By.Attempt", 92, func(v *p) any { return &v.Done[0].By.Attempt }},
			{"Done.At", 93, func(v *p) any { return &v.Done[0].At }},
			{"Done.Yes", 109, func(v *p) any { return &v.Done[0].Yes }},
		},
		lists: []listed[p]{
			// A zero cell has a key, no version, and no lock.
			listOf("Cells", 21, 44, func(v *p) *[]api.Cell { return &v.Cells }),
			listOf("Versions", 23, 18, func(v *p) *[]api.Version { return &v.Cells[0].Versions }),
			listOf("Records", 66, 21, func(v *p) *[]api.Outcome { return &v.Records }),
			listOf("Done", 88, 21, func(v *p) *[]api.Outcome { return &v.Done }),
		},
		put: wire.Part, take: wire.TakePart, same: wire.SamePart,
	}
}

// element is the bytes of a zero element of a list.
func element[T any](l listed[T]) string {
	switch l.name {
	case "Cells":
		return "\x00" + "\x00" + "\x00"
	case "Versions":
		return zero + "\x00\x00"
	case "Records", "Done":
		return "\x00\x00\x00\x00" + zero + "\x00"
	}
	return strings.Repeat("\x00", l.size)
}

func joints() subject[api.Joint] {
	type j = api.Joint
	return subject[j]{
		name:  "Joint",
		base:  func() j { return j{} },
		bytes: strings.Repeat("\x00", 17),
		places: []place[j]{
			{"Old.Voters", 0, func(v *j) any { return &v.Old.Voters }},
			{"Old.Witnesses", 2, func(v *j) any { return &v.Old.Witnesses }},
			{"Old.Learners", 4, func(v *j) any { return &v.Old.Learners }},
			{"Old.Elect", 6, func(v *j) any { return &v.Old.Elect }},
			{"Old.Commit", 7, func(v *j) any { return &v.Old.Commit }},
			{"New.Voters", 8, func(v *j) any { return &v.New.Voters }},
			{"New.Witnesses", 10, func(v *j) any { return &v.New.Witnesses }},
			{"New.Learners", 12, func(v *j) any { return &v.New.Learners }},
			{"New.Elect", 14, func(v *j) any { return &v.New.Elect }},
			{"New.Commit", 15, func(v *j) any { return &v.New.Commit }},
			{"Two", 16, func(v *j) any { return &v.Two }},
		},
		put: wire.Joint,
		take: func(b []byte) (api.Joint, api.Errno) {
			j, _, e := wire.TakeJoint(b)
			return j, e
		},
		same: func(a, b api.Joint) bool { return a == b },
	}
}

// number is a number and its bytes.
type number struct {
	v     int64
	bytes string
}

// numbers lists numbers below 0 and above, at the ends of one, two and more bytes and beyond, and those at both ends of all.
func numbers() []number {
	return []number{
		{0, "\x00"}, {-1, "\x01"}, {1, "\x02"}, {-2, "\x03"}, {2, "\x04"},
		{63, "\x7e"}, {-64, "\x7f"}, {64, "\x80\x01"}, {-65, "\x81\x01"}, {150, "\xac\x02"},
		{8191, "\xfe\x7f"}, {-8192, "\xff\x7f"}, {8192, "\x80\x80\x01"}, {-8193, "\x81\x80\x01"},
		{1<<20 - 1, "\xfe\xff\x7f"}, {-1 << 20, "\xff\xff\x7f"}, {1 << 20, "\x80\x80\x80\x01"},
		{math.MaxInt32, "\xfe\xff\xff\xff\x0f"}, {math.MinInt32, "\xff\xff\xff\xff\x0f"},
		{math.MaxInt32 + 1, "\x80\x80\x80\x80\x10"}, {math.MinInt32 - 1, "\x81\x80\x80\x80\x10"},
		{1 << 40, "\x80\x80\x80\x80\x80\x40"},
		{1<<62 - 1, "\xfe\xff\xff\xff\xff\xff\xff\xff\x7f"}, {1 << 62, "\x80\x80\x80\x80\x80\x80\x80\x80\x80\x01"},
		{math.MaxInt64, "\xfe\xff\xff\xff\xff\xff\xff\xff\xff\x01"},
		{math.MinInt64, "\xff\xff\xff\xff\xff\xff\xff\xff\xff\x01"},
	}
}

// moment is a stamp and its bytes.
type moment struct {
	v     api.Stamp
	bytes string
}

func moments() []moment {
	none := zero[:8]
	return []moment{
		{api.Stamp{}, zero},
		{api.Stamp{Wall: 1}, "\x80\x00\x00\x00\x00\x00\x00\x01" + none},
		{api.Stamp{Tie: 1}, none + "\x80\x00\x00\x00\x00\x00\x00\x01"},
		{api.Stamp{Wall: -1}, "\x7f\xff\xff\xff\xff\xff\xff\xff" + none},
		{api.Stamp{Tie: -256}, none + "\x7f\xff\xff\xff\xff\xff\xff\x00"},
		{api.Stamp{Wall: math.MaxInt64, Tie: math.MinInt64}, strings.Repeat("\xff", 8) + strings.Repeat("\x00", 8)},
		{api.Stamp{Wall: math.MinInt64, Tie: 0x0102030405060708}, strings.Repeat("\x00", 8) + "\x81\x02\x03\x04\x05\x06\x07\x08"},
	}
}

// text is a text and its bytes.
type text struct{ v, bytes string }

func texts() []text {
	long := strings.Repeat("l", 127)
	whole := make([]byte, 256)
	for i := range whole {
		whole[i] = byte(i)
	}
	return []text{
		{"", "\x00"}, {"a", "\x01a"}, {"\x00", "\x01\x00"}, {"\xff\x80", "\x02\xff\x80"}, {"é\n", "\x03\xc3\xa9\n"},
		{long, "\x7f" + long}, {long + "m", "\x80\x01" + long + "m"}, {string(whole), "\x80\x02" + string(whole)},
	}
}

// setOf is a set and its bytes.
type setOf struct {
	v     api.Set
	bytes string
}

func sets() []setOf {
	return []setOf{
		{0, "\x00\x00"}, {1, "\x00\x01"}, {0x80, "\x00\x80"}, {0xff, "\x00\xff"}, {0x100, "\x01\x00"},
		{0x8001, "\x80\x01"}, {0x03fe, "\x03\xfe"}, {0xffff, "\xff\xff"},
	}
}

// sample is what a field may be, how it is set, and its bytes.
type sample struct {
	set   func(field any)
	bytes string
}

// samples lists what a field of that type may be: first what it is in a base value.
func samples(field any) []sample {
	var out []sample
	switch field.(type) {
	case *int:
		for _, n := range numbers() {
			out = append(out, sample{func(field any) { *field.(*int) = int(n.v) }, n.bytes})
		}
	case *int64:
		for _, n := range numbers() {
			out = append(out, sample{func(field any) { *field.(*int64) = n.v }, n.bytes})
		}
	case *bool:
		out = append(out, sample{func(field any) { *field.(*bool) = false }, "\x00"})
		out = append(out, sample{func(field any) { *field.(*bool) = true }, "\x01"})
	case *string:
		for _, s := range texts() {
			out = append(out, sample{func(field any) { *field.(*string) = s.v }, s.bytes})
		}
	case *api.Stamp:
		for _, m := range moments() {
			out = append(out, sample{func(field any) { *field.(*api.Stamp) = m.v }, m.bytes})
		}
	case *api.Set:
		for _, s := range sets() {
			out = append(out, sample{func(field any) { *field.(*api.Set) = s.v }, s.bytes})
		}
	}
	return out
}

// faulty lists bytes that no field of that type begins with.
func faulty(field any) []string {
	nines := strings.Repeat("\xff", 9)
	long := []string{
		"\x80\x00", "\x81\x00", "\xff\x00", "\xff\x80\x00", nines + "\x00", // longer than need be
		nines + "\x02", nines + "\x7f", nines + "\x81\x00", nines + "\xff\x01", strings.Repeat("\x80", 9) + "\x02", // beyond 64 bits
	}
	switch field.(type) {
	case *int, *int64:
		return long
	case *bool:
		return []string{"\x02", "\x03", "\x7f", "\x80", "\x81\x00", "\x80\x00", "\xfe", "\xff"}
	case *string:
		// Lengths that are greater than what is left, up to the greatest number.
		return append(long, "\x7f", "\xff\x01", "\xff\xff\xff\x7f", strings.Repeat("\xff", 8)+"\x7f", "\x80\x80\x80\x80\x80\x80\x80\x80\x80\x01", nines+"\x01")
	}
	return nil
}

// splice gives b with what stands at the offset at, size bytes, replaced.
func splice(b string, at, size int, by string) string {
	return b[:at] + by + b[at+size:]
}
