package wal_test

import (
	"math"
	"math/rand"
	"slices"
	"testing"

	"antipode/api"
	"antipode/disk"
	"antipode/wal"
)

// act is a call of a Wal: 'a' appends recs[0], 's' syncs, 'r' rewrites to recs.
type act struct {
	kind byte
	recs []string
}

func (a act) on(w *wal.Wal) api.Errno {
	switch a.kind {
	case 'a':
		return w.Append([]byte(a.recs[0]))
	case 's':
		return w.Sync()
	}
	return w.Rewrite(records(a.recs...))
}

func (a act) onPaper(p *paper) api.Errno {
	switch a.kind {
	case 'a':
		return p.append(a.recs[0])
	case 's':
		return p.sync()
	}
	return p.rewrite(a.recs)
}

// hopes is what may be found behind a failure of the power: the first sure ones of recs and some of those that follow them in order, or, if a Rewrite failed, other.
type hopes struct {
	recs, other []string
	sure        int
	rewriting   bool
}

// note takes notice of a call that answered e.
func (h *hopes) note(a act, e api.Errno) {
	switch {
	case a.kind == 'r' && e != api.OK:
		h.other, h.rewriting = a.recs, true
	case a.kind == 'r':
		*h = hopes{recs: a.recs, sure: len(a.recs)}
	case a.kind == 's' && e == api.OK:
		h.sure = len(h.recs)
	case a.kind == 'a' && e == api.OK:
		h.recs = append(slices.Clip(h.recs), a.recs[0])
	}
}

func (h *hopes) allow(recs [][]byte) bool {
	if h.rewriting && same(recs, h.other) {
		return true
	}
	return len(recs) >= h.sure && len(recs) <= len(h.recs) && same(recs, h.recs[:len(recs)])
}

// run does the acts until one fails; it opens d first.
func run(d *disk.Disk, acts []act) (h hopes) {
	w, _, e := wal.Open(d)
	for _, a := range acts {
		if e != api.OK {
			return h
		}
		e = a.on(w)
		h.note(a, e)
	}
	return h
}

// The longest script: each kind of act behind each other one.
var script = []act{
	{'a', []string{"a"}}, {'a', []string{""}}, {'s', nil}, {'a', []string{"b"}}, {'a', []string{"cd"}},
	{'r', []string{"x", "", "yz"}}, {'a', []string{"E"}}, {'s', nil}, {'s', nil}, {'r', nil}, {'r', []string{"R"}}, {'s', nil},
	{'a', []string{"e"}}, {'r', []string{"e", "f"}}, {'a', []string{"g"}}, {'s', nil}, {'a', []string{"h"}},
}

// tailsOf gives what may be kept of pending bytes: each number of them, in both files, in one, and in none.
func tailsOf(d *disk.Disk) [][]int {
	n := max(pending(d, 0), pending(d, 1))
	l := [][]int{nil, {}, {-1, math.MinInt}, {math.MaxInt, math.MaxInt}, {math.MaxInt}, {0, math.MaxInt}}
	for k := range n + 1 {
		l = append(l, []int{k, k}, []int{k, 0}, []int{0, k}, []int{n - k, k})
	}
	return l
}

// pending gives how many bytes of file f a failure of the power may take.
func pending(d *disk.Disk, f int) int {
	all, none := d.Copy(), d.Copy()
	all.Power([]int{math.MaxInt, math.MaxInt})
	none.Power(nil)
	return len(read(all, f)) - len(read(none, f))
}

// steps gives how many changes of a new disk the acts do, its opening counted.
func steps(acts []act) int {
	d := disk.New()
	run(d, acts)
	return d.Steps()
}

// What follows

// The power fails at every step of the script, also of its opening, and every tail may stay.
func TestPowerFailsAnywhere(t *testing.T) {
	for n := range steps(script) + 1 {
		d := disk.New()
		d.Arm(n)
		h := run(d, script)
		for _, keep := range tailsOf(d) {
			c := d.Copy()
			c.Power(keep)
			w, recs, e := wal.Open(c)
			if e != api.OK || !h.allow(recs) || w.Count() != len(recs) {
				t.Fatalf("the power fails at step %d, %v stays: %q %d, not %+v", n, keep, recs, e, h)
			}
			recovered(t, c, w, recs)
		}
	}
}

// recovered fails unless the log, which was just opened, lasts as it is, and goes on.
func recovered(t *testing.T, d *disk.Disk, w *wal.Wal, recs [][]byte) {
	t.Helper()
	want := texts(recs)
	c := d.Copy()
	c.Power(nil)
	opens(t, "torn again", c, want...)
	put(t, w, "on")
	answers(t, "Sync of what was recovered", w.Sync(), api.OK)
	d.Power(nil)
	opens(t, "recovered, and on", d, append(want, "on")...)
}

func texts(recs [][]byte) (l []string) {
	for _, rec := range recs {
		l = append(l, string(rec))
	}
	return l
}

// The power fails once more while Open mends what the first failure left, at every step, and every tail may stay.
func TestPowerFailsWhileOpenMends(t *testing.T) {
	for n := range steps(script) + 1 {
		d := disk.New()
		d.Arm(n)
		run(d, script)
		for _, keep := range tailsOf(d) {
			c := d.Copy()
			c.Power(keep)
			_, recs, _ := wal.Open(c.Copy())
			failsOnce(t, c, texts(recs))
		}
	}
}

// failsOnce fails unless each Open of d finds want, whatever fails in the one before it.
func failsOnce(t *testing.T, d *disk.Disk, want []string) {
	t.Helper()
	for n := range 3 {
		c := d.Copy()
		c.Arm(n)
		if _, _, e := wal.Open(c); e == api.OK {
			return // there is nothing to mend
		}
		for _, keep := range tailsOf(c) {
			b := c.Copy()
			b.Power(keep)
			opens(t, "opened behind an Open that failed", b, want...)
		}
	}
}

// A log that was recovered, and one that was mended, goes on as any other one: failure behind failure.
func TestPowerFailsAgainAndAgain(t *testing.T) {
	r := rand.New(rand.NewSource(5))
	for range 60 {
		d := disk.New()
		h := hopes{}
		for life := range 30 {
			w, recs, e := wal.Open(d)
			if e == api.OK && !h.allow(recs) {
				t.Fatalf("life %d: %q, not %+v", life, recs, h)
			}
			if e == api.OK {
				h = hopes{recs: texts(recs), sure: len(recs)}
				d.Arm(r.Intn(25))
			}
			for e == api.OK {
				a := anyAct(r)
				e = a.on(w)
				h.note(a, e)
			}
			d.Power([]int{r.Intn(60), r.Intn(60)})
			d.Arm(r.Intn(12) - 3)
		}
	}
}

func anyAct(r *rand.Rand) act {
	switch r.Intn(8) {
	case 0, 1, 2, 3:
		return act{'a', []string{anyRec(r)}}
	case 4, 5:
		return act{'s', nil}
	}
	a := act{kind: 'r'}
	for range r.Intn(4) {
		a.recs = append(a.recs, anyRec(r))
	}
	return a
}

func anyRec(r *rand.Rand) string {
	if r.Intn(4) == 0 {
		return []string{"", "E", "R", g(uint64(r.Intn(9)))}[r.Intn(4)]
	}
	return long(r.Intn(12))
}

// All promises at once

// pair is a Wal and what it should be, on a disk and its copy.
type pair struct {
	w *wal.Wal
	p *paper
}

// alike fails unless the disks are, and the Wals tell what they should.
func alike(t *testing.T, what string, d, c *disk.Disk, pairs []pair) {
	t.Helper()
	if d.Dead() != c.Dead() || d.Lives() != c.Lives() || d.Steps() != c.Steps() {
		t.Fatalf("%s: Dead %t, Lives %d, Steps %d, not %t %d %d", what, d.Dead(), d.Lives(), d.Steps(), c.Dead(), c.Lives(), c.Steps())
	}
	for f := range 2 {
		if read(d, f) != read(c, f) || pending(d, f) != pending(c, f) {
			t.Fatalf("%s: file %d: %q, %d pending, not %q, %d", what, f, read(d, f), pending(d, f), read(c, f), pending(c, f))
		}
	}
	for _, x := range pairs {
		if got := [2]int{x.w.Count(), x.w.Bytes()}; got != x.p.tells() {
			t.Fatalf("%s: Count and Bytes %d, not %d", what, got, x.p.tells())
		}
	}
}

// openBoth opens both disks, and fails unless the answers are alike.
func openBoth(t *testing.T, what string, d, c *disk.Disk) (pair, bool) {
	t.Helper()
	w, recs, e := wal.Open(d)
	p, want, no := openPaper(c)
	if e != no || e == api.OK && !same(recs, want) || e != api.OK && (w != nil || recs != nil) {
		t.Fatalf("%s: Open: %q %d, not %q %d", what, recs, e, want, no)
	}
	return pair{w, p}, e == api.OK
}

// What files are made of: generations, good and bad ones; records with data; all the others.
var (
	gens   = []string{g(0), g(1), g(2), g(2), g(3), g(noGen - 2), g(noGen - 1), g(noGen)}
	datas  = []string{"R", "Ra", "RE", "Rbc", "R" + g(4)}
	others = []string{"", "E", "E", "EE", "x", "G", "r", g(1), g(9)}
)

func one(r *rand.Rand, of []string) string {
	return of[r.Intn(len(of))]
}

// anyFile gives a file of records of all kinds: often a complete one, often a damaged one.
func anyFile(r *rand.Rand) string {
	var recs []string
	if r.Intn(8) > 0 {
		recs = append(recs, one(r, gens))
	}
	for range r.Intn(3) {
		recs = append(recs, one(r, datas))
	}
	if r.Intn(8) == 0 {
		recs = append(recs, one(r, others))
	}
	if r.Intn(8) > 0 {
		recs = append(recs, "E")
	}
	for range r.Intn(4) {
		recs = append(recs, one(r, datas))
	}
	for r.Intn(3) == 0 {
		recs = append(recs, one(r, others), one(r, datas))
	}
	return spoilt(r, file(recs...))
}

// spoilt gives b, sometimes cut off, sometimes with bytes behind it that are no record, sometimes with a bit changed.
func spoilt(r *rand.Rand, b string) string {
	if r.Intn(4) == 0 {
		b = b[:r.Intn(len(b)+1)]
	}
	if r.Intn(6) == 0 {
		b += long(r.Intn(20))
	}
	if r.Intn(10) > 0 || b == "" {
		return b
	}
	changed := []byte(b)
	changed[r.Intn(len(b))] ^= 1 << r.Intn(8)
	return string(changed)
}

// Files of every kind are found to be what the definitions say.
func TestOpenOfAnyFiles(t *testing.T) {
	r := rand.New(rand.NewSource(6))
	for range 8000 {
		d := diskOf(anyFile(r), anyFile(r))
		if r.Intn(6) == 0 {
			d.Arm(r.Intn(4))
		}
		c := d.Copy()
		x, ok := openBoth(t, "any files", d, c)
		if !ok {
			alike(t, "any files", d, c, nil)
			continue
		}
		alike(t, "any files", d, c, []pair{x})
		a := anyAct(r)
		answers(t, "an act on any files", a.on(x.w), a.onPaper(x.p))
		alike(t, "an act on any files", d, c, []pair{x})
	}
}

// Calls of every kind, in any order, also of Wals that are closed, and also with a hand that plays with the disk.
func TestAnyCalls(t *testing.T) {
	r := rand.New(rand.NewSource(7))
	for range 150 {
		d := disk.New()
		if r.Intn(2) == 0 {
			d = diskOf(anyFile(r), anyFile(r))
		}
		c := d.Copy()
		var pairs []pair
		for range 60 {
			play(r, d, c)
			if len(pairs) == 0 || r.Intn(8) == 0 {
				if x, ok := openBoth(t, "any calls", d, c); ok {
					pairs = append(pairs, x)
				}
			}
			a := anyAct(r)
			for _, x := range pairs {
				answers(t, "any call", a.on(x.w), a.onPaper(x.p))
			}
			alike(t, "any calls", d, c, pairs)
		}
	}
}

// play does to both disks what a failing machine may do.
func play(r *rand.Rand, d, c *disk.Disk) {
	n, keep := r.Intn(6), []int{r.Intn(40), r.Intn(40)}
	switch kind := r.Intn(16); {
	case kind == 0:
		d.Arm(n)
		c.Arm(n)
	case kind == 1 || d.Dead() && kind < 8:
		d.Power(keep[:n%3])
		c.Power(keep[:n%3])
	}
}
