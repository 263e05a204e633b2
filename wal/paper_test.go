package wal_test

import (
	"encoding/binary"
	"hash/crc32"
	"regexp"
	"testing"

	"antipode/api"
	"antipode/disk"
	"antipode/wal"
)

// The generation behind the last one.
const noGen = 1 << 62

// framed gives a record as it lies in a file, built with another hand's numbers and checksums; of any length.
func framed(rec string) string {
	b := binary.BigEndian.AppendUint32(nil, uint32(len(rec)))
	c := crc32.Checksum([]byte(string(b)+rec), crc32.MakeTable(crc32.Castagnoli))
	return string(binary.BigEndian.AppendUint32(b, c)) + rec
}

// file gives the bytes of a file with these records.
func file(recs ...string) string {
	var b []byte
	for _, rec := range recs {
		b = append(b, framed(rec)...)
	}
	return string(b)
}

// g gives the record that tells a generation.
func g(gen uint64) string {
	return "G" + string(binary.BigEndian.AppendUint64(nil, gen))
}

// whole gives the bytes of a file that a Rewrite to recs has written.
func whole(gen uint64, recs ...string) string {
	all := []string{g(gen)}
	for _, rec := range recs {
		all = append(all, "R"+rec)
	}
	return file(append(all, "E")...)
}

// tail gives what Appends of recs put behind a file.
func tail(recs ...string) string {
	var b []byte
	for _, rec := range recs {
		b = append(b, framed("R"+rec)...)
	}
	return string(b)
}

// cut takes the first record off b.
func cut(b string) (rec, rest string, ok bool) {
	if len(b) < 8 {
		return "", "", false
	}
	size := binary.BigEndian.Uint32([]byte(b))
	if size > api.MaxRecord || int(size) > len(b)-8 {
		return "", "", false
	}
	rec, rest = b[8:8+size], b[8+size:]
	return rec, rest, framed(rec) == b[:8+size]
}

// found is what the chapter's definitions find in a file.
type found struct {
	complete, damaged bool
	gen               uint64
	recs              []string
}

// A complete file, if each of its records is written as a letter.
var shape = regexp.MustCompile(`^G(R*)E(R*)(.*)$`)

func letter(rec string) string {
	if len(rec) == 9 && rec[0] == 'G' {
		if gen := binary.BigEndian.Uint64([]byte(rec[1:])); gen >= 1 && gen < noGen {
			return "G"
		}
	}
	if rec == "E" {
		return "E"
	}
	if len(rec) > 0 && rec[0] == 'R' {
		return "R"
	}
	return "?"
}

func look(b string) (f found) {
	letters, recs := []byte{}, []string{}
	for {
		rec, rest, ok := cut(b)
		if !ok {
			break
		}
		letters, recs, b = append(letters, letter(rec)...), append(recs, rec), rest
	}
	m := shape.FindStringSubmatch(string(letters))
	if m == nil {
		return found{}
	}
	f.complete, f.damaged = true, m[3] != "" || b != ""
	f.gen = binary.BigEndian.Uint64([]byte(recs[0][1:]))
	for i, rec := range recs[1 : len(recs)-len(m[3])] {
		if i != len(m[1]) {
			f.recs = append(f.recs, rec[1:])
		}
	}
	return f
}

// paper is a Wal as the words of the chapter have it, on a disk of its own; its file is -1 if there is no log.
type paper struct {
	d             *disk.Disk
	lives, file   int
	gen           uint64
	count, length int
	closed        bool
}

func openPaper(d *disk.Disk) (*paper, []string, api.Errno) {
	if d == nil || d.Copy() == nil {
		return nil, nil, api.ErrArg
	}
	if d.Dead() {
		return nil, nil, api.ErrDead
	}
	p := &paper{d: d, lives: d.Lives(), file: -1}
	both := [2]found{look(read(d, 0)), look(read(d, 1))}
	if both[1].complete {
		p.file = 1
	}
	if both[0].complete && (!both[1].complete || both[0].gen >= both[1].gen) {
		p.file = 0
	}
	if p.file == -1 {
		e := p.rewrite(nil)
		return p, nil, e
	}
	log := both[p.file]
	p.gen, p.count, p.length = log.gen, len(log.recs), len(read(d, p.file))
	if log.damaged {
		if e := p.rewrite(log.recs); e != api.OK {
			return nil, nil, e
		}
	}
	return p, log.recs, api.OK
}

// over tells whether p is closed.
func (p *paper) over() bool {
	return p.closed || p.d.Lives() != p.lives
}

// after closes p if the disk answered an error, and hands that on.
func (p *paper) after(e api.Errno) api.Errno {
	p.closed = p.closed || e != api.OK
	return e
}

func (p *paper) rewrite(recs []string) api.Errno {
	if p.over() {
		return api.ErrDead
	}
	for _, rec := range recs {
		if len(rec) > api.MaxRecord-1 {
			return api.ErrLong
		}
	}
	if p.gen+1 == noGen {
		return api.ErrFull
	}
	to, b := 0, whole(p.gen+1, recs...)
	if p.file == 0 {
		to = 1
	}
	e := p.d.Clear(to)
	if e == api.OK {
		e = p.d.Append(to, []byte(b))
	}
	if e == api.OK {
		e = p.d.Sync(to)
	}
	if e == api.OK {
		p.file, p.gen, p.count, p.length = to, p.gen+1, len(recs), len(b)
	}
	return p.after(e)
}

func (p *paper) append(rec string) api.Errno {
	if p.over() {
		return api.ErrDead
	}
	if len(rec) > api.MaxRecord-1 {
		return api.ErrLong
	}
	b := framed("R" + rec)
	e := p.after(p.d.Append(p.file, []byte(b)))
	if e == api.OK {
		p.count++
		p.length += len(b)
	}
	return e
}

func (p *paper) sync() api.Errno {
	if p.over() {
		return api.ErrDead
	}
	return p.after(p.d.Sync(p.file))
}

// tells gives Count and Bytes.
func (p *paper) tells() [2]int {
	if p.over() {
		return [2]int{}
	}
	return [2]int{p.count, p.length}
}

// read gives file f, or nothing.
func read(d *disk.Disk, f int) string {
	b, _ := d.Read(f)
	return string(b)
}

// diskOf gives a disk with these files, which are durable.
func diskOf(zero, one string) *disk.Disk {
	d := disk.New()
	for f, b := range []string{zero, one} {
		if b != "" {
			d.Append(f, []byte(b))
			d.Sync(f)
		}
	}
	return d
}

// records gives strings as records.
func records(recs ...string) [][]byte {
	var l [][]byte
	for _, rec := range recs {
		l = append(l, []byte(rec))
	}
	return l
}

// same tells whether the records are these.
func same(recs [][]byte, want []string) bool {
	if len(recs) != len(want) {
		return false
	}
	for i := range recs {
		if string(recs[i]) != want[i] {
			return false
		}
	}
	return true
}

// answers fails unless e is want.
func answers(t *testing.T, what string, e, want api.Errno) {
	t.Helper()
	if e != want {
		t.Errorf("%s: %d, not %d", what, e, want)
	}
}

// opens opens d, and fails unless it finds just these records.
func opens(t *testing.T, what string, d *disk.Disk, want ...string) *wal.Wal {
	t.Helper()
	w, recs, e := wal.Open(d)
	if w == nil || !same(recs, want) || e != api.OK {
		t.Fatalf("%s: Open: %.60q %d, not %.60q", what, recs, e, want)
	}
	return w
}

// refused fails unless Open of d answers want, and zero values beside it.
func refused(t *testing.T, what string, d *disk.Disk, want api.Errno) {
	t.Helper()
	if w, recs, e := wal.Open(d); w != nil || recs != nil || e != want {
		t.Errorf("%s: Open: %t, %.60q, %d, not %d", what, w != nil, recs, e, want)
	}
}

// tells fails unless Count and Bytes are these.
func tells(t *testing.T, what string, w *wal.Wal, count, length int) {
	t.Helper()
	if w.Count() != count || w.Bytes() != length {
		t.Errorf("%s: Count %d, Bytes %d, not %d %d", what, w.Count(), w.Bytes(), count, length)
	}
}

// holds fails unless the files are just these.
func holds(t *testing.T, what string, d *disk.Disk, zero, one string) {
	t.Helper()
	for f, want := range []string{zero, one} {
		if b, e := d.Read(f); string(b) != want || e != api.OK {
			t.Errorf("%s: file %d: %d bytes, %.80q %d, not %d, %.80q", what, f, len(b), b, e, len(want), want)
		}
	}
}

// lasts fails unless the files are just these behind a failure of the power that keeps nothing; d goes on.
func lasts(t *testing.T, what string, d *disk.Disk, zero, one string) {
	t.Helper()
	c := d.Copy()
	c.Power(nil)
	holds(t, what+", torn", c, zero, one)
}

// shut fails unless w is closed: it answers so, whatever it is asked, and leaves its disk alone.
func shut(t *testing.T, what string, w *wal.Wal, d *disk.Disk) {
	t.Helper()
	tooLong := make([]byte, api.MaxRecord)
	steps, zero, one := d.Steps(), read(d, 0), read(d, 1)
	for range 2 {
		answers(t, what+": Append", w.Append([]byte("x")), api.ErrDead)
		answers(t, what+": Append of too much", w.Append(tooLong), api.ErrDead)
		answers(t, what+": Sync", w.Sync(), api.ErrDead)
		answers(t, what+": Rewrite", w.Rewrite(records("x")), api.ErrDead)
		answers(t, what+": Rewrite to nothing", w.Rewrite(nil), api.ErrDead)
		answers(t, what+": Rewrite to too much", w.Rewrite([][]byte{tooLong}), api.ErrDead)
		tells(t, what, w, 0, 0)
	}
	if d.Steps() != steps || read(d, 0) != zero || read(d, 1) != one {
		t.Errorf("%s: a closed Wal changes its disk", what)
	}
}

// put fails unless each of the records can be appended.
func put(t *testing.T, w *wal.Wal, recs ...string) {
	t.Helper()
	for _, rec := range recs {
		answers(t, "Append", w.Append([]byte(rec)), api.OK)
	}
}
