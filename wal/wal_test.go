package wal_test

import (
	"bytes"
	"math"
	"math/rand"
	"strings"
	"testing"

	"antipode/api"
	"antipode/disk"
	"antipode/wal"
)

// off turns the power of d off, unseen by any Wal.
func off(d *disk.Disk) {
	d.Arm(0)
	d.Sync(0)
}

// long gives n bytes that look like none in particular, always the same ones.
func long(n int) string {
	b := make([]byte, n)
	rand.New(rand.NewSource(int64(n))).Read(b)
	return string(b)
}

// The greatest records that a log takes, and the least that it does not.
const (
	most    = api.MaxRecord - 1
	tooMany = api.MaxRecord
)

// P5.1

func TestOpenOfANewDisk(t *testing.T) {
	const first = "\x00\x00\x00\x09\xd5\x1e\x41\xdbG\x00\x00\x00\x00\x00\x00\x00\x01\x00\x00\x00\x01\x22\x5a\xe7\xe2E"
	d := disk.New()
	w := opens(t, "new", d)
	holds(t, "new", d, whole(1), "")
	holds(t, "new, byte by byte", d, first, "")
	lasts(t, "new", d, first, "")
	tells(t, "new", w, 0, len(first))
	if d.Steps() != 3 {
		t.Errorf("Steps of the first Open: %d, not 3", d.Steps())
	}
}

func TestOpenReads(t *testing.T) {
	cases := []struct{ base, tail []string }{
		{nil, nil},
		{[]string{"a"}, nil},
		{nil, []string{"a"}},
		{[]string{"a", "b"}, []string{"c", "d", "e"}},
		{[]string{"", ""}, []string{"", "", ""}},
		{[]string{"E", "G", "R", g(9), ""}, []string{"R", "E", g(9), "", "E"}},
		{[]string{long(1000), long(256)}, []string{long(255), "\x00", "\xff"}},
		{[]string{long(most)}, []string{long(most)}},
	}
	for _, c := range cases {
		for f := range 2 {
			b := [2]string{}
			b[f] = whole(5, c.base...) + tail(c.tail...)
			d := diskOf(b[0], b[1])
			w := opens(t, "a complete file", d, append(append([]string{}, c.base...), c.tail...)...)
			tells(t, "a complete file", w, len(c.base)+len(c.tail), len(b[f]))
			holds(t, "a complete file", d, b[0], b[1])
			if d.Steps() != 2 {
				t.Errorf("Open of a file that is whole does %d steps", d.Steps()-2)
			}
		}
	}
}

// What is pending counts too, and stays pending.
func TestOpenReadsWhatIsPending(t *testing.T) {
	d := diskOf(whole(3, "a"), "")
	d.Append(0, []byte(tail("b", "c")))
	w := opens(t, "pending", d, "a", "b", "c")
	tells(t, "pending", w, 3, len(whole(3, "a")+tail("b", "c")))
	lasts(t, "pending", d, whole(3, "a"), "")
}

func TestOpenTakesTheGreaterGeneration(t *testing.T) {
	gens := []uint64{1, 2, 3, 255, 256, 1 << 32, 1<<61 + 1, noGen - 2, noGen - 1}
	for _, x := range gens {
		for _, y := range gens {
			zero, one := whole(x, "zero")+tail("0"), whole(y, "one")
			d := diskOf(zero, one)
			if x >= y {
				tells(t, "file 0", opens(t, "file 0", d, "zero", "0"), 2, len(zero))
			} else {
				tells(t, "file 1", opens(t, "file 1", d, "one"), 1, len(one))
			}
			holds(t, "two complete files", d, zero, one)
		}
	}
}

// A file that is not complete is none, whatever its generation would be.
func TestOpenTakesTheCompleteFile(t *testing.T) {
	b := whole(2, "a") + tail("b")
	for _, x := range notComplete() {
		d := diskOf(b, x)
		tells(t, "file 0", opens(t, "file 0", d, "a", "b"), 2, len(b))
		holds(t, "file 0", d, b, x)
		d = diskOf(x, b)
		tells(t, "file 1", opens(t, "file 1", d, "a", "b"), 2, len(b))
		holds(t, "file 1", d, x, b)
	}
}

// notComplete gives files that are not complete.
func notComplete() []string {
	changed := []byte(whole(9, "abc"))
	changed[len(changed)-1] ^= 1
	l := []string{
		"",
		"x",
		long(500),
		file(""),
		file("E"),
		file("R", "E"),
		file("", g(9), "E"),
		file("Ra", g(9), "E"),
		file("E", g(9), "E"),
		file("G", "E"),
		file(g(9)[:8], "E"),
		file(g(9)+"\x00", "E"),
		file("G"+g(9)[2:], "E"),
		file("g"+g(9)[1:], "E"),
		file("R"+g(9)[1:], "E"),
		file(g(0), "E"),
		file(g(0), "Ra", "E", "Rb"),
		file(g(noGen), "E"),
		file(g(noGen+1), "Ra", "E"),
		file(g(1<<63), "E"),
		file(g(1<<63+1), "E"),
		file(g(math.MaxUint64), "E"),
		file(g(9)),
		file(g(9), "Ra", "Rb"),
		file(g(9), "e"),
		file(g(9), "EE"),
		file(g(9), "E\x00"),
		file(g(9), "RE"),
		file(g(9), "", "E"),
		file(g(9), "Ra", "", "E"),
		file(g(9), g(9), "E"),
		file(g(9), "Ra", g(10), "E"),
		file(g(9), "ra", "E"),
		file(g(9), "xR", "E"),
		file(g(9), "Ra", "EE", "E"),
		"x" + whole(9, "abc"),
		string(changed),
	}
	for n := range len(whole(9, "a")) {
		l = append(l, whole(9, "a")[:n])
	}
	return l
}

func TestOpenOfNoCompleteFile(t *testing.T) {
	for _, zero := range notComplete() {
		for _, one := range notComplete() {
			d := diskOf(zero, one)
			steps := d.Steps()
			w := opens(t, "no complete file", d)
			tells(t, "no complete file", w, 0, len(whole(1)))
			holds(t, "no complete file", d, whole(1), one)
			lasts(t, "no complete file", d, whole(1), one)
			if d.Steps() != steps+3 {
				t.Errorf("Open does %d steps", d.Steps()-steps)
			}
		}
	}
}

// damage gives what may follow a tail.
func damage() []string {
	return []string{
		"x",
		"\x00",
		framed("Rx")[:1],
		framed("Rx")[:8],
		framed("Rx")[:9],
		framed("") + framed("Rx"),
		file(""),
		file("E"),
		file("E", "Rx"),
		file("E", "Rx", "E"),
		file("EE"),
		file("x", "Rx", "E"),
		file(g(9)),
		whole(9, "x"),
		whole(math.MaxUint64),
		"x" + tail("y"),
		strings.Repeat("\x00", 7),
		"\x00\x10\x00\x01" + long(100),
		long(3000),
	}
}

func TestOpenOfADamagedFile(t *testing.T) {
	for _, gen := range []uint64{1, 2, 5, 1 << 40, noGen - 2} {
		for f := range 2 {
			for _, end := range damage() {
				for _, c := range [][2][]string{{}, {{"a", ""}, nil}, {nil, {"c"}}, {{"a", "", "E"}, {"c", ""}}} {
					recs := append(append([]string{}, c[0]...), c[1]...)
					b := [2]string{}
					b[f] = whole(gen, c[0]...) + tail(c[1]...) + end
					d := diskOf(b[0], b[1])
					w := opens(t, "damaged", d, recs...)
					b[1-f] = whole(gen+1, recs...)
					tells(t, "damaged", w, len(recs), len(b[1-f]))
					holds(t, "damaged", d, b[0], b[1])
					lasts(t, "damaged", d, b[0], b[1])
					if d.Steps() != 5 {
						t.Errorf("Open of a damaged file does %d steps", d.Steps()-2)
					}
				}
			}
		}
	}
}

// Only the log is mended: the other file may be as it likes, and is what a mended log is written to.
func TestOpenOfTwoFilesOfWhichOneIsDamaged(t *testing.T) {
	for _, end := range damage() {
		zero, one := whole(4, "zero")+tail("0"), whole(3, "one")+end
		d := diskOf(zero, one)
		opens(t, "the elder is damaged", d, "zero", "0")
		holds(t, "the elder is damaged", d, zero, one)

		one = whole(4, "one") + end
		d = diskOf(zero, one)
		opens(t, "file 1 of two that are alike is damaged", d, "zero", "0")
		holds(t, "file 1 of two that are alike is damaged", d, zero, one)

		zero, one = whole(4, "zero")+tail("0")+end, whole(4, "one")
		d = diskOf(zero, one)
		opens(t, "file 0 of two that are alike is damaged", d, "zero", "0")
		holds(t, "file 0 of two that are alike is damaged", d, zero, whole(5, "zero", "0"))

		zero, one = whole(4, "zero"), whole(6, "one")+tail("1")+end
		d = diskOf(zero, one)
		opens(t, "the younger is damaged", d, "one", "1")
		holds(t, "the younger is damaged", d, whole(7, "one", "1"), one)
	}
}

func TestOpenOfTheLastGeneration(t *testing.T) {
	for f := range 2 {
		b := [2]string{"other", "other"}
		b[f] = whole(noGen-1, "a") + tail("b")
		d := diskOf(b[0], b[1])
		tells(t, "the last generation", opens(t, "the last generation", d, "a", "b"), 2, len(b[f]))
		for _, end := range damage() {
			c := b
			c[f] += end
			d := diskOf(c[0], c[1])
			d.Arm(0)
			refused(t, "the last generation, damaged", d, api.ErrFull)
			refused(t, "the last generation, damaged, again", d, api.ErrFull)
			holds(t, "the last generation, damaged", d, c[0], c[1])
			if d.Steps() != 4 {
				t.Errorf("Open that is refused does %d steps", d.Steps()-4)
			}
		}
	}
}

func TestOpenOfNoDisk(t *testing.T) {
	refused(t, "a nil disk", nil, api.ErrArg)
	refused(t, "a zero disk", &disk.Disk{}, api.ErrArg)
	refused(t, "a copy of a zero disk", (&disk.Disk{}).Copy(), api.ErrArg)
}

func TestOpenWithoutPower(t *testing.T) {
	for _, b := range []string{"", "x", whole(3, "a"), whole(3, "a") + "x", whole(noGen-1, "a"), whole(noGen-1, "a") + "x"} {
		for _, d := range []*disk.Disk{diskOf(b, ""), diskOf("", b), diskOf(b, b)} {
			c := d.Copy()
			off(d)
			steps := d.Steps()
			refused(t, "no power", d, api.ErrDead)
			refused(t, "no power, again", d, api.ErrDead)
			if !d.Dead() || d.Steps() != steps {
				t.Errorf("Open without power: Dead %t, Steps %d, not %d", d.Dead(), d.Steps(), steps)
			}
			d.Power(nil)
			holds(t, "with power again", d, read(c, 0), read(c, 1))
		}
	}
}

// If there is nothing to mend, Open only reads, and what is armed stays so.
func TestOpenOfAnArmedDisk(t *testing.T) {
	d := diskOf(whole(3, "a")+tail("b"), "x")
	d.Arm(0)
	for range 3 {
		tells(t, "armed", opens(t, "armed", d, "a", "b"), 2, len(whole(3, "a")+tail("b")))
	}
	for n := range 3 {
		for _, d := range []*disk.Disk{disk.New(), diskOf("x", "y"), diskOf(whole(3, "a")+"x", "y"), diskOf(whole(2, "b"), whole(3, "a")+"x")} {
			c := d.Copy()
			d.Arm(n)
			refused(t, "the power fails while Open mends", d, api.ErrDead)
			if !d.Dead() || d.Steps() != c.Steps()+n {
				t.Errorf("Open that fails behind %d steps: Dead %t, Steps %d, not %d", n, d.Dead(), d.Steps(), c.Steps()+n)
			}
		}
	}
}

func TestOpenGivesNewMemory(t *testing.T) {
	for _, end := range []string{"", "x"} {
		d := diskOf(whole(3, "ab", "", "cd")+tail("ef")+end, "")
		w, recs, _ := wal.Open(d)
		c := d.Copy()
		for i := range recs {
			recs[i] = append(recs[i][:cap(recs[i])], "more"...)
			for j := range recs[i] {
				recs[i][j] = 'x'
			}
			for _, rec := range recs[i+1:] {
				if strings.Contains(string(rec), "x") {
					t.Fatal("two records share memory")
				}
			}
		}
		holds(t, "what Open gave is changed", d, read(c, 0), read(c, 1))
		opens(t, "opened again", d, "ab", "", "cd", "ef")
		if w.Count() != 4 {
			t.Errorf("Count: %d, not 4", w.Count())
		}
	}
}

func TestOpenDependsOnTheDiskAlone(t *testing.T) {
	for _, b := range append(damage(), "") {
		d := diskOf(whole(7, "a")+tail("b")+b, long(40))
		c := d.Copy()
		v, w := opens(t, "a disk", d, "a", "b"), opens(t, "its copy", c, "a", "b")
		holds(t, "its copy", c, read(d, 0), read(d, 1))
		tells(t, "its copy", w, v.Count(), v.Bytes())
	}
}

// P5.2

func TestRewriteBytes(t *testing.T) {
	d := disk.New()
	w := opens(t, "new", d)
	put(t, w, "old")
	b := [2]string{whole(1) + tail("old"), ""}
	for i, recs := range [][]string{{"a"}, {}, {"", "bc", ""}, {"E", "R", g(3)}, {long(300)}, {"x", "x"}} {
		steps := d.Steps()
		answers(t, "Rewrite", w.Rewrite(records(recs...)), api.OK)
		f := (i + 1) % 2
		b[f] = whole(uint64(i+2), recs...)
		holds(t, "rewritten", d, b[0], b[1])
		tells(t, "rewritten", w, len(recs), len(b[f]))
		if d.Steps() != steps+3 {
			t.Errorf("Rewrite does %d steps, not 3", d.Steps()-steps)
		}
		opens(t, "rewritten", d.Copy(), recs...)
		put(t, w, "tail")
		b[f] += tail("tail")
		holds(t, "behind a Rewrite", d, b[0], b[1])
		tells(t, "behind a Rewrite", w, len(recs)+1, len(b[f]))
		opens(t, "behind a Rewrite", d.Copy(), append(recs, "tail")...)
	}
}

// A Rewrite is durable when it answers, by itself; what was pending in the other file is none of its business.
func TestRewriteLasts(t *testing.T) {
	d := disk.New()
	w := opens(t, "new", d)
	put(t, w, "pending")
	answers(t, "Rewrite", w.Rewrite(records("a", "b")), api.OK)
	lasts(t, "rewritten", d, whole(1), whole(2, "a", "b"))
	put(t, w, "c")
	lasts(t, "appended", d, whole(1), whole(2, "a", "b"))
	answers(t, "Sync", w.Sync(), api.OK)
	lasts(t, "synced", d, whole(1), whole(2, "a", "b")+tail("c"))
}

// Whatever the other file has had, nothing of it stays.
func TestRewriteClears(t *testing.T) {
	for _, other := range append(notComplete(), whole(3, "a", "b", "c"), whole(1)+long(5000)) {
		for f := range 2 {
			b := [2]string{other, other}
			b[f] = whole(3, "old")
			if f == 1 {
				b[f] = whole(4, "old")
			}
			d := diskOf(b[0], b[1])
			w := opens(t, "a log", d, "old")
			answers(t, "Rewrite", w.Rewrite(records("new")), api.OK)
			b[1-f] = whole(uint64(4+f), "new")
			holds(t, "rewritten", d, b[0], b[1])
			lasts(t, "rewritten", d, b[0], b[1])
		}
	}
}

func TestRewriteNilAndEmptyAreAlike(t *testing.T) {
	for _, recs := range [][][]byte{nil, {}} {
		d := diskOf(whole(3, "old"), "")
		w := opens(t, "a log", d, "old")
		answers(t, "Rewrite to nothing", w.Rewrite(recs), api.OK)
		holds(t, "rewritten to nothing", d, whole(3, "old"), whole(4))
		tells(t, "rewritten to nothing", w, 0, len(whole(4)))
	}
	d := diskOf(whole(3), "")
	w := opens(t, "a log", d)
	answers(t, "Rewrite to records of nothing", w.Rewrite([][]byte{nil, {}}), api.OK)
	holds(t, "rewritten to records of nothing", d, whole(3), whole(4, "", ""))
}

func TestRewriteLengths(t *testing.T) {
	for _, n := range []int{0, 1, 7, 8, 255, 256, 65535, 65536, most - 1, most} {
		d := diskOf(whole(3, "old"), "")
		w := opens(t, "a log", d, "old")
		answers(t, "Rewrite", w.Rewrite(records("a", long(n), "b")), api.OK)
		holds(t, "rewritten", d, whole(3, "old"), whole(4, "a", long(n), "b"))
		tells(t, "rewritten", w, 3, len(whole(4, "a", long(n), "b")))
		opens(t, "rewritten", d, "a", long(n), "b")
	}
}

func TestRewriteTooLong(t *testing.T) {
	for _, n := range []int{tooMany, tooMany + 1, 2 * tooMany, 1 << 24} {
		d := diskOf(whole(3, "old"), "other")
		w := opens(t, "a log", d, "old")
		d.Arm(1)
		for _, recs := range [][][]byte{{make([]byte, n)}, {[]byte("a"), make([]byte, n)}, {make([]byte, n), []byte("a"), nil}} {
			answers(t, "Rewrite to too much", w.Rewrite(recs), api.ErrLong)
		}
		holds(t, "refused", d, whole(3, "old"), "other")
		tells(t, "refused", w, 1, len(whole(3, "old")))
		if d.Steps() != 4 {
			t.Errorf("Rewrite that is refused does %d steps", d.Steps()-4)
		}
		put(t, w, "and on")
		opens(t, "and on", d, "old", "and on")
	}
}

// With the last generation there is no Rewrite any more, but the log goes on.
func TestRewriteOfTheLastGeneration(t *testing.T) {
	for f := range 2 {
		b := [2]string{"other", "other"}
		b[f] = whole(noGen-2, "old")
		d := diskOf(b[0], b[1])
		w := opens(t, "the last but one", d, "old")
		answers(t, "the last Rewrite", w.Rewrite(records("last")), api.OK)
		b[1-f] = whole(noGen-1, "last")
		holds(t, "the last generation", d, b[0], b[1])
		for range 2 {
			answers(t, "one more Rewrite", w.Rewrite(records("more")), api.ErrFull)
			answers(t, "one more Rewrite, to too much", w.Rewrite(records(long(tooMany))), api.ErrLong)
			holds(t, "one more Rewrite", d, b[0], b[1])
			tells(t, "one more Rewrite", w, 1, len(b[1-f]))
		}
		put(t, w, "tail")
		answers(t, "Sync", w.Sync(), api.OK)
		b[1-f] += tail("tail")
		lasts(t, "and on", d, b[0], b[1])
		opens(t, "and on", d, "last", "tail")
		off(d)
		answers(t, "one more Rewrite, without power", w.Rewrite(records("more")), api.ErrFull)
		tells(t, "one more Rewrite, without power", w, 2, len(b[1-f]))
	}
}

func TestRewriteFails(t *testing.T) {
	for n := range 3 {
		for f := range 2 {
			b := [2]string{"other", "other"}
			b[f] = whole(3, "old")
			d := diskOf(b[0], b[1])
			w := opens(t, "a log", d, "old")
			d.Arm(n)
			answers(t, "Rewrite", w.Rewrite(records("new")), api.ErrDead)
			shut(t, "a failed Rewrite", w, d)
			d.Power([]int{math.MaxInt, math.MaxInt})
			b[1-f] = []string{"other", "", whole(4, "new")}[n]
			holds(t, "a failed Rewrite", d, b[0], b[1])
			shut(t, "a failed Rewrite, with power again", w, d)
		}
	}
}

// room gives records that together make a file of just n bytes, of which whole is given.
func room(n int) []string {
	var recs []string
	left := n - len(whole(1))
	for left > len(framed("R"))+most {
		recs = append(recs, long(most/2))
		left -= len(framed("R")) + most/2
	}
	return append(recs, long(left-len(framed("R"))))
}

func TestRewriteOfAFullFile(t *testing.T) {
	recs := room(api.MaxFile)
	d := diskOf(whole(3, "old"), "other")
	w := opens(t, "a log", d, "old")
	answers(t, "Rewrite to most", w.Rewrite(records(recs...)), api.OK)
	holds(t, "rewritten to most", d, whole(3, "old"), whole(4, recs...))
	tells(t, "rewritten to most", w, len(recs), api.MaxFile)
	opens(t, "rewritten to most", d, recs...)
	answers(t, "Append to a full file", w.Append(nil), api.ErrFull)
	shut(t, "full", w, d)
	w = opens(t, "opened again", d, recs...)
	answers(t, "Rewrite of a full file", w.Rewrite(records("few")), api.OK)
	put(t, w, "and on")
	opens(t, "and on", d, "few", "and on")
}

// What the disk has no room for closes the Wal, as each error of the disk does; the log is what it was.
func TestRewriteTooMuch(t *testing.T) {
	many := make([][]byte, 1<<20)
	for _, recs := range [][][]byte{records(room(api.MaxFile + 1)...), records(room(api.MaxFile + 1000)...), records(room(3 * api.MaxFile)...), many} {
		d := diskOf(whole(3, "old"), "other")
		w := opens(t, "a log", d, "old")
		put(t, w, "tail")
		answers(t, "Rewrite to too much", w.Rewrite(recs), api.ErrFull)
		holds(t, "Rewrite to too much", d, whole(3, "old")+tail("tail"), "")
		shut(t, "Rewrite to too much", w, d)
		w = opens(t, "opened again", d, "old", "tail")
		answers(t, "Rewrite", w.Rewrite(records("new")), api.OK)
		opens(t, "rewritten", d, "new")

		d = diskOf(whole(3, "old"), "other")
		w = opens(t, "a log", d, "old")
		d.Arm(0)
		answers(t, "Rewrite to too much: Clear fails first", w.Rewrite(recs), api.ErrDead)
		d = diskOf(whole(3, "old"), "other")
		w = opens(t, "a log", d, "old")
		d.Arm(1)
		answers(t, "Rewrite to too much: there is no room first", w.Rewrite(recs), api.ErrFull)
	}
}

func TestRewriteKeepsNothing(t *testing.T) {
	d := diskOf(whole(3), "")
	w := opens(t, "a log", d)
	back := []byte("abcdef")
	recs := [][]byte{back[:2], back[2:3], nil, []byte("z")}
	answers(t, "Rewrite", w.Rewrite(recs[:3]), api.OK)
	if string(back) != "abcdef" || !same(recs, []string{"ab", "c", "", "z"}) {
		t.Error("Rewrite changes what it is given")
	}
	copy(back, "xxxxxx")
	recs[0] = []byte("gone")
	holds(t, "what was given is changed", d, whole(3), whole(4, "ab", "c", ""))
	tells(t, "what was given is changed", w, 3, len(whole(4, "ab", "c", "")))
}

// P5.3

func TestAppendBytes(t *testing.T) {
	for f := range 2 {
		b := [2]string{"other", "other"}
		b[f] = whole(3, "base") + tail("a")
		d := diskOf(b[0], b[1])
		w := opens(t, "a log", d, "base", "a")
		count, recs := 2, []string{"base", "a"}
		for _, rec := range []string{"b", "", "E", g(9), "R", long(300), "\x00", "", strings.Repeat("\xff", 8)} {
			steps := d.Steps()
			answers(t, "Append", w.Append([]byte(rec)), api.OK)
			b[f] += tail(rec)
			count++
			recs = append(recs, rec)
			holds(t, "appended", d, b[0], b[1])
			tells(t, "appended", w, count, len(b[f]))
			if d.Steps() != steps+1 {
				t.Errorf("Append does %d steps, not 1", d.Steps()-steps)
			}
		}
		opens(t, "appended", d, recs...)
	}
}

func TestAppendOfNil(t *testing.T) {
	d := diskOf(whole(3), "")
	w := opens(t, "a log", d)
	answers(t, "Append of nil", w.Append(nil), api.OK)
	answers(t, "Append of no bytes", w.Append([]byte{}), api.OK)
	holds(t, "appended", d, whole(3)+tail("", ""), "")
	tells(t, "appended", w, 2, len(whole(3)+tail("", "")))
}

func TestAppendLengths(t *testing.T) {
	for _, n := range []int{0, 1, 6, 7, 8, 254, 255, 256, 65534, 65535, 65536, most - 1, most} {
		d := diskOf(whole(3), "")
		w := opens(t, "a log", d)
		put(t, w, "a", long(n), "b")
		holds(t, "appended", d, whole(3)+tail("a", long(n), "b"), "")
		tells(t, "appended", w, 3, len(whole(3)+tail("a", long(n), "b")))
		opens(t, "appended", d, "a", long(n), "b")
	}
}

func TestAppendTooLong(t *testing.T) {
	for _, n := range []int{tooMany, tooMany + 1, 2 * tooMany, api.MaxFile + 1, 1 << 24} {
		d := diskOf(whole(3, "old"), "other")
		w := opens(t, "a log", d, "old")
		d.Arm(1)
		for range 2 {
			answers(t, "Append of too much", w.Append(make([]byte, n)), api.ErrLong)
			holds(t, "refused", d, whole(3, "old"), "other")
			tells(t, "refused", w, 1, len(whole(3, "old")))
		}
		put(t, w, "and on")
		opens(t, "and on", d, "old", "and on")
		off(d)
		answers(t, "Append of too much without power", w.Append(make([]byte, n)), api.ErrLong)
		tells(t, "refused without power", w, 2, len(whole(3, "old")+tail("and on")))
	}
}

func TestAppendUntilFull(t *testing.T) {
	d := diskOf(whole(3), "")
	w := opens(t, "a log", d)
	recs := room(api.MaxFile - 20)
	put(t, w, recs...)
	tells(t, "almost full", w, len(recs), api.MaxFile-20)
	c := d.Copy()
	v := opens(t, "almost full", c, recs...)
	put(t, w, strings.Repeat("x", 20-len(framed("R"))))
	tells(t, "full", w, len(recs)+1, api.MaxFile)
	answers(t, "Sync of a full file", w.Sync(), api.OK)
	tells(t, "full, synced", w, len(recs)+1, api.MaxFile)
	answers(t, "Append of one byte too many", v.Append(make([]byte, 21-len(framed("R")))), api.ErrFull)
	shut(t, "more than full", v, c)
	opens(t, "opened again", c, recs...)
}

func TestAppendIsPendingUntilSync(t *testing.T) {
	for f := range 2 {
		b := [2]string{}
		b[f] = whole(3, "base")
		d := diskOf(b[0], b[1])
		w := opens(t, "a log", d, "base")
		put(t, w, "a", "b")
		lasts(t, "pending", d, b[0], b[1])
		steps := d.Steps()
		answers(t, "Sync", w.Sync(), api.OK)
		if d.Steps() != steps+1 {
			t.Errorf("Sync does %d steps, not 1", d.Steps()-steps)
		}
		b[f] += tail("a", "b")
		lasts(t, "synced", d, b[0], b[1])
		tells(t, "synced", w, 3, len(b[f]))
		put(t, w, "c")
		lasts(t, "pending behind what is synced", d, b[0], b[1])
	}
}

// Sync is of the log's file alone, also if nothing is pending there.
func TestSyncIsOfTheLog(t *testing.T) {
	for f := range 2 {
		b := [2]string{}
		b[f] = whole(3, "base")
		d := diskOf(b[0], b[1])
		d.Append(1-f, []byte("pending"))
		w := opens(t, "a log", d, "base")
		for range 2 {
			steps := d.Steps()
			answers(t, "Sync of nothing", w.Sync(), api.OK)
			if d.Steps() != steps+1 {
				t.Errorf("Sync of nothing does %d steps, not 1", d.Steps()-steps)
			}
		}
		lasts(t, "the other file", d, b[0], b[1])
	}
}

func TestAppendKeepsNothing(t *testing.T) {
	d := diskOf(whole(3), "")
	w := opens(t, "a log", d)
	back := []byte("abcdefghijklmnopqrstuvwxyz")
	answers(t, "Append", w.Append(back[:2]), api.OK)
	if string(back) != "abcdefghijklmnopqrstuvwxyz" {
		t.Error("Append changes what it is given")
	}
	copy(back, bytes.Repeat([]byte("x"), len(back)))
	holds(t, "what was given is changed", d, whole(3)+tail("ab"), "")
}

// Bytes is what was there when the log was opened, and what the Wal itself has written since.
func TestBytesOfOthersDoNotCount(t *testing.T) {
	d := diskOf(whole(3, "a"), "other")
	w := opens(t, "a log", d, "a")
	d.Append(0, []byte("of another hand"))
	d.Append(1, []byte("of another hand"))
	tells(t, "another hand", w, 1, len(whole(3, "a")))
	put(t, w, "b")
	tells(t, "another hand", w, 2, len(whole(3, "a")+tail("b")))
	holds(t, "another hand", d, whole(3, "a")+"of another hand"+tail("b"), "otherof another hand")
}

// Errors, and what closes a Wal

func TestNoWal(t *testing.T) {
	tooLong := make([]byte, tooMany)
	for _, w := range []*wal.Wal{nil, {}, new(wal.Wal)} {
		for range 2 {
			answers(t, "Append", w.Append([]byte("a")), api.ErrArg)
			answers(t, "Append of nil", w.Append(nil), api.ErrArg)
			answers(t, "Append of too much", w.Append(tooLong), api.ErrArg)
			answers(t, "Sync", w.Sync(), api.ErrArg)
			answers(t, "Rewrite", w.Rewrite(records("a")), api.ErrArg)
			answers(t, "Rewrite to nothing", w.Rewrite(nil), api.ErrArg)
			answers(t, "Rewrite to too much", w.Rewrite([][]byte{tooLong}), api.ErrArg)
			tells(t, "no Wal", w, 0, 0)
		}
	}
}

func TestPowerCloses(t *testing.T) {
	for _, keep := range [][]int{nil, {100, 100}} {
		d := diskOf(whole(3, "a"), "")
		w := opens(t, "a log", d, "a")
		put(t, w, "b")
		answers(t, "Sync", w.Sync(), api.OK)
		d.Power(keep)
		shut(t, "behind a Power", w, d)
		d.Power(keep)
		shut(t, "behind two", w, d)
		v := opens(t, "opened again", d, "a", "b")
		put(t, v, "c")
		shut(t, "while another one is open", w, d)
		tells(t, "opened again", v, 3, len(whole(3, "a")+tail("b", "c")))
	}
}

// Only a Power since a Wal was opened closes it, not one that came before.
func TestPowerBeforeCloses(t *testing.T) {
	d := diskOf(whole(3, "a"), "")
	for range 300 {
		d.Power(nil)
	}
	w := opens(t, "a log", d, "a")
	put(t, w, "b")
	c := d.Copy()
	c.Power(nil)
	put(t, w, "c")
	tells(t, "the power of a copy", w, 3, len(whole(3, "a")+tail("b", "c")))
}

func TestErrorsOfTheDiskClose(t *testing.T) {
	calls := []func(w *wal.Wal) api.Errno{
		func(w *wal.Wal) api.Errno { return w.Append([]byte("b")) },
		func(w *wal.Wal) api.Errno { return w.Append(nil) },
		func(w *wal.Wal) api.Errno { return w.Sync() },
		func(w *wal.Wal) api.Errno { return w.Rewrite(records("b")) },
		func(w *wal.Wal) api.Errno { return w.Rewrite(nil) },
	}
	for _, call := range calls {
		d := diskOf(whole(3, "a"), "other")
		w := opens(t, "a log", d, "a")
		d.Arm(0)
		answers(t, "the call that fails", call(w), api.ErrDead)
		if !d.Dead() {
			t.Error("the call does not reach the disk")
		}
		shut(t, "a failed call", w, d)
		d.Power(nil)
		shut(t, "a failed call, with power again", w, d)
		holds(t, "a failed call", d, whole(3, "a"), "other")

		d = diskOf(whole(3, "a"), "other")
		w = opens(t, "a log", d, "a")
		off(d)
		tells(t, "without power, not asked yet", w, 1, len(whole(3, "a")))
		answers(t, "a call without power", call(w), api.ErrDead)
		shut(t, "a call without power", w, d)
	}
}

// A disk that has room again does not open a Wal that found it full.
func TestFullCloses(t *testing.T) {
	d := diskOf(whole(3, "a"), "")
	w := opens(t, "a log", d, "a")
	d.Append(0, make([]byte, api.MaxFile-len(whole(3, "a"))))
	tells(t, "full, not asked yet", w, 1, len(whole(3, "a")))
	answers(t, "Sync of a full file", w.Sync(), api.OK)
	answers(t, "Append of too much to a full file", w.Append(make([]byte, tooMany)), api.ErrLong)
	answers(t, "Append to a full file", w.Append(nil), api.ErrFull)
	shut(t, "full", w, d)
	d.Clear(0)
	shut(t, "with room again", w, d)
}
