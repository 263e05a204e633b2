package disk_test

import (
	"bytes"
	"math"
	"math/rand"
	"strings"
	"testing"

	"antipode/api"
	"antipode/disk"
)

// paper is a disk as the words of the chapter have it; an assignment copies all of it.
type paper struct {
	durable, pending [2]string
	off, armed       bool
	left             int
	lives, steps     int
}

// change does a change to file f, as one step: 'a' appends s, 's' syncs, 'c' clears.
type change struct {
	kind byte
	f    int
	s    string
}

func (c change) on(d *disk.Disk) api.Errno {
	switch c.kind {
	case 'a':
		return d.Append(c.f, []byte(c.s))
	case 's':
		return d.Sync(c.f)
	}
	return d.Clear(c.f)
}

func (c change) onPaper(p *paper) api.Errno {
	if p.off {
		return api.ErrDead
	}
	if c.f != 0 && c.f != 1 {
		return api.ErrArg
	}
	if c.kind == 'a' && len(p.durable[c.f])+len(p.pending[c.f])+len(c.s) > api.MaxFile {
		return api.ErrFull
	}
	if p.armed && p.left == 0 {
		p.off = true
		return api.ErrDead
	}
	p.left--
	p.steps++
	switch c.kind {
	case 'a':
		p.pending[c.f] += c.s
	case 's':
		p.durable[c.f], p.pending[c.f] = p.durable[c.f]+p.pending[c.f], ""
	case 'c':
		p.durable[c.f], p.pending[c.f] = "", ""
	}
	return api.OK
}

func (p *paper) power(keep []int) {
	for f := range 2 {
		n := 0
		if f < len(keep) && keep[f] > 0 {
			n = keep[f]
		}
		if n > len(p.pending[f]) {
			n = len(p.pending[f])
		}
		p.durable[f], p.pending[f] = p.durable[f]+p.pending[f][:n], ""
	}
	p.off, p.armed = false, false
	p.lives++
}

// same fails unless all that d tells is what p has.
func same(t *testing.T, what string, d *disk.Disk, p paper) {
	t.Helper()
	if d.Dead() != p.off || d.Lives() != p.lives || d.Steps() != p.steps {
		t.Errorf("%s: Dead %t, Lives %d, Steps %d, not %t %d %d", what, d.Dead(), d.Lives(), d.Steps(), p.off, p.lives, p.steps)
	}
	for f := range 2 {
		want, no := p.durable[f]+p.pending[f], api.OK
		if p.off {
			want, no = "", api.ErrDead
		}
		if b, e := d.Read(f); string(b) != want || e != no {
			t.Errorf("%s: Read(%d): %.60q %d, not %.60q %d", what, f, b, e, want, no)
		}
	}
}

// holds fails unless the files are just these, and can be read.
func holds(t *testing.T, what string, d *disk.Disk, zero, one string) {
	t.Helper()
	for f, want := range []string{zero, one} {
		if b, e := d.Read(f); string(b) != want || e != api.OK {
			t.Errorf("%s: Read(%d): %.60q %d, not %.60q", what, f, b, e, want)
		}
	}
}

// answers fails unless e is want.
func answers(t *testing.T, what string, e, want api.Errno) {
	t.Helper()
	if e != want {
		t.Errorf("%s: %d, not %d", what, e, want)
	}
}

// with gives a disk on which the changes were done.
func with(t *testing.T, changes ...change) *disk.Disk {
	t.Helper()
	d := disk.New()
	for _, c := range changes {
		answers(t, "a change", c.on(d), api.OK)
	}
	return d
}

// read gives file f, or nothing.
func read(d *disk.Disk, f int) string {
	b, _ := d.Read(f)
	return string(b)
}

// strange are numbers that no file has.
var strange = []int{-1, 2, 3, 255, 256, 1 << 16, math.MaxInt32, math.MinInt32, math.MaxInt, math.MinInt, math.MinInt + 1}

// changesOf lists a change of each kind to file f.
func changesOf(f int) []change {
	return []change{{'a', f, "x"}, {'a', f, ""}, {'s', f, ""}, {'c', f, ""}}
}

// P4.1

func TestNewIsEmpty(t *testing.T) {
	same(t, "a new disk", disk.New(), paper{})
	if a, b := disk.New(), disk.New(); a.Append(0, []byte("a")) != api.OK || read(b, 0) != "" {
		t.Error("two new disks are one")
	}
}

func TestAppendsFollowEachOther(t *testing.T) {
	d := disk.New()
	answers(t, "Append", d.Append(0, []byte("ab")), api.OK)
	answers(t, "Append", d.Append(1, []byte("xyz")), api.OK)
	answers(t, "Append", d.Append(0, []byte("cd")), api.OK)
	answers(t, "Append of nil", d.Append(0, nil), api.OK)
	answers(t, "Append of no bytes", d.Append(1, []byte{}), api.OK)
	answers(t, "Append", d.Append(0, []byte("\x00\xff")), api.OK)
	holds(t, "pending bytes", d, "abcd\x00\xff", "xyz")
	if d.Steps() != 6 {
		t.Errorf("Steps: %d, not 6", d.Steps())
	}
}

func TestSyncIsOfOneWholeFile(t *testing.T) {
	for f := range 2 {
		d := with(t, change{'a', 0, "ab"}, change{'a', 0, "cd"}, change{'a', 1, "xy"}, change{'s', f, ""})
		holds(t, "synced", d, "abcd", "xy")
		d.Power(nil)
		want := [2]string{}
		want[f] = []string{"abcd", "xy"}[f]
		holds(t, "synced, then torn", d, want[0], want[1])
	}
}

func TestSyncOfNothing(t *testing.T) {
	d := with(t, change{'s', 0, ""}, change{'s', 0, ""}, change{'a', 0, "a"}, change{'s', 0, ""}, change{'s', 0, ""})
	d.Power(nil)
	holds(t, "synced twice", d, "a", "")
	if d.Steps() != 5 {
		t.Errorf("Steps: %d, not 5", d.Steps())
	}
}

func TestWhatFollowsASyncIsPending(t *testing.T) {
	d := with(t, change{'a', 0, "ab"}, change{'s', 0, ""}, change{'a', 0, "cd"})
	holds(t, "pending behind durable", d, "abcd", "")
	d.Power(nil)
	holds(t, "torn", d, "ab", "")
}

func TestClearLastsAtOnce(t *testing.T) {
	for f := range 2 {
		d := with(t, change{'a', f, "ab"}, change{'a', 1 - f, "other"}, change{'s', f, ""}, change{'s', 1 - f, ""}, change{'a', f, "cd"}, change{'c', f, ""})
		want := [2]string{"other", "other"}
		want[f] = ""
		holds(t, "cleared", d, want[0], want[1])
		d.Power([]int{9, 9})
		holds(t, "cleared, then torn", d, want[0], want[1])
	}
}

// What is appended behind a Clear is pending from its first byte on, however much was durable before.
func TestAppendBehindClear(t *testing.T) {
	d := with(t, change{'a', 0, "abcd"}, change{'s', 0, ""}, change{'c', 0, ""}, change{'a', 0, "xyz"})
	holds(t, "written anew", d, "xyz", "")
	c := d.Copy()
	d.Power(nil)
	holds(t, "written anew, then torn", d, "", "")
	c.Power([]int{2})
	holds(t, "written anew, then torn behind two bytes", c, "xy", "")
}

func TestNoSuchFile(t *testing.T) {
	d := with(t, change{'a', 0, "ab"}, change{'a', 1, "xy"})
	d.Arm(1)
	for _, f := range strange {
		for _, c := range changesOf(f) {
			answers(t, "a change of a file that is none", c.on(d), api.ErrArg)
		}
		if b, e := d.Read(f); b != nil || e != api.ErrArg {
			t.Errorf("Read(%d): %q %d", f, b, e)
		}
	}
	same(t, "after calls on files that are none", d, paper{pending: [2]string{"ab", "xy"}, steps: 2})
	answers(t, "the call that is let", d.Append(0, []byte("c")), api.OK)
	answers(t, "the call that fails", d.Append(0, []byte("d")), api.ErrDead)
}

func TestFullAtItsEnd(t *testing.T) {
	most := make([]byte, api.MaxFile)
	for f := range 2 {
		d := disk.New()
		answers(t, "one more than most", d.Append(f, make([]byte, api.MaxFile+1)), api.ErrFull)
		answers(t, "far more than most", d.Append(f, make([]byte, 3*api.MaxFile)), api.ErrFull)
		answers(t, "all but one", d.Append(f, most[1:]), api.OK)
		answers(t, "two more", d.Append(f, []byte("ab")), api.ErrFull)
		answers(t, "one more", d.Append(f, []byte("a")), api.OK)
		answers(t, "one too many", d.Append(f, []byte("b")), api.ErrFull)
		answers(t, "most behind most", d.Append(f, most), api.ErrFull)
		answers(t, "none behind most", d.Append(f, nil), api.OK)
		answers(t, "Sync of a full file", d.Sync(f), api.OK)
		answers(t, "one too many behind durable ones", d.Append(f, []byte("b")), api.ErrFull)
		answers(t, "the other file", d.Append(1-f, most), api.OK)
		if b, e := d.Read(f); string(b) != string(most[1:])+"a" || e != api.OK {
			t.Errorf("Read of a full file: %d bytes, %d", len(b), e)
		}
		if d.Steps() != 5 || d.Dead() {
			t.Errorf("Steps %d, not 5; Dead %t", d.Steps(), d.Dead())
		}
	}
}

func TestFullInSmallSteps(t *testing.T) {
	d := disk.New()
	piece := bytes.Repeat([]byte("0123456789abcdef"), 64)
	for at := 0; at < api.MaxFile; at += len(piece) {
		if e := d.Append(0, piece); e != api.OK {
			t.Fatalf("Append at %d: %d", at, e)
		}
	}
	answers(t, "one too many", d.Append(0, []byte("x")), api.ErrFull)
	if got := read(d, 0); got != strings.Repeat(string(piece), api.MaxFile/len(piece)) {
		t.Errorf("Read of a full file: %d bytes that are not those", len(got))
	}
}

func TestRoomAgain(t *testing.T) {
	d := with(t, change{'a', 0, "abc"}, change{'s', 0, ""}, change{'a', 0, strings.Repeat("x", api.MaxFile-3)})
	answers(t, "a full file", d.Append(0, []byte("y")), api.ErrFull)
	d.Power([]int{1})
	answers(t, "one more than was torn off", d.Append(0, make([]byte, api.MaxFile-3)), api.ErrFull)
	answers(t, "as many as were torn off", d.Append(0, make([]byte, api.MaxFile-4)), api.OK)
	answers(t, "Clear", d.Clear(0), api.OK)
	answers(t, "most", d.Append(0, make([]byte, api.MaxFile)), api.OK)
}

func TestErrorsInOrder(t *testing.T) {
	tooLong := make([]byte, api.MaxFile+1)
	for _, d := range []*disk.Disk{nil, {}} {
		answers(t, "no disk, no file, too long", d.Append(7, tooLong), api.ErrArg)
		answers(t, "no disk, too long", d.Append(0, tooLong), api.ErrArg)
	}
	d := with(t, change{'a', 0, "ab"})
	d.Arm(0)
	answers(t, "no file, too long, armed", d.Append(2, tooLong), api.ErrArg)
	answers(t, "too long, armed", d.Append(0, tooLong), api.ErrFull)
	answers(t, "Sync of no file, armed", d.Sync(2), api.ErrArg)
	answers(t, "Clear of no file, armed", d.Clear(-1), api.ErrArg)
	same(t, "armed", d, paper{pending: [2]string{"ab"}, steps: 1})
	answers(t, "armed", d.Append(0, nil), api.ErrDead)
	for _, f := range append([]int{0, 1}, strange...) {
		answers(t, "no power, too long", d.Append(f, tooLong), api.ErrDead)
		for _, c := range changesOf(f) {
			answers(t, "no power", c.on(d), api.ErrDead)
		}
		if b, e := d.Read(f); b != nil || e != api.ErrDead {
			t.Errorf("Read(%d) without power: %q %d", f, b, e)
		}
	}
	if !d.Dead() || d.Steps() != 1 || d.Lives() != 0 {
		t.Errorf("no power: Dead %t, Steps %d, Lives %d", d.Dead(), d.Steps(), d.Lives())
	}
}

// P4.2

func TestArmLetsSoMany(t *testing.T) {
	for n := range 6 {
		for _, last := range []change{{'a', 0, "lost"}, {'a', 0, ""}, {'s', 0, ""}, {'c', 0, ""}, {'a', 1, "lost"}, {'s', 1, ""}, {'c', 1, ""}} {
			d, p := disk.New(), paper{}
			d.Arm(n)
			p.armed, p.left = true, n
			for i := range n {
				c := []change{{'a', 0, "ab"}, {'a', 1, "xy"}, {'s', 0, ""}, {'a', 0, "cd"}, {'c', 1, ""}}[i]
				answers(t, "a call that is let", c.on(d), api.OK)
				c.onPaper(&p)
				same(t, "armed", d, p)
			}
			answers(t, "the call that fails", last.on(d), api.ErrDead)
			last.onPaper(&p)
			same(t, "failed", d, p)
			d.Power([]int{9, 9})
			p.power([]int{9, 9})
			same(t, "with power again", d, p)
		}
	}
}

func TestArmOfMany(t *testing.T) {
	d := disk.New()
	d.Arm(5000)
	for range 5000 {
		answers(t, "one of 5000", d.Append(0, []byte("a")), api.OK)
	}
	answers(t, "one more than 5000", d.Append(0, []byte("a")), api.ErrDead)
	for _, n := range []int{1 << 16, math.MaxInt - 1, math.MaxInt} {
		d := disk.New()
		d.Arm(n)
		for range 1 << 14 {
			answers(t, "one of many", d.Append(0, []byte("a")), api.OK)
		}
	}
}

func TestArmNegative(t *testing.T) {
	for _, n := range []int{-1, -2, -100, math.MinInt32, math.MinInt, math.MinInt + 1} {
		d := disk.New()
		d.Arm(0)
		d.Arm(n)
		for range 300 {
			answers(t, "Append", d.Append(0, []byte("a")), api.OK)
		}
		answers(t, "Sync", d.Sync(0), api.OK)
		answers(t, "Clear", d.Clear(0), api.OK)
		same(t, "never", d, paper{steps: 302})
	}
}

func TestTheLastArmCounts(t *testing.T) {
	d := disk.New()
	d.Arm(0)
	d.Arm(2)
	answers(t, "first", d.Append(0, []byte("a")), api.OK)
	d.Arm(1)
	answers(t, "second", d.Sync(0), api.OK)
	answers(t, "third", d.Sync(0), api.ErrDead)
	d.Power(nil)
	d.Arm(5)
	d.Arm(0)
	answers(t, "fourth", d.Clear(0), api.ErrDead)
	d.Power(nil)
	holds(t, "after two failures", d, "a", "")
}

// Neither Read, nor what only tells, nor a call that is refused uses up what Arm lets.
func TestArmCountsChangesAlone(t *testing.T) {
	d := with(t, change{'a', 0, "a"})
	d.Arm(1)
	for range 3 {
		holds(t, "armed", d, "a", "")
		d.Read(2)
		d.Dead()
		d.Lives()
		d.Steps()
		d.Copy()
		d.Sync(2)
		d.Clear(-1)
		d.Append(2, nil)
		d.Append(0, make([]byte, api.MaxFile))
	}
	answers(t, "the call that is let", d.Sync(0), api.OK)
	holds(t, "armed", d, "a", "")
	answers(t, "the call that fails", d.Sync(0), api.ErrDead)
}

// An Arm without power brings none, and Power leaves nothing armed.
func TestArmWithoutPower(t *testing.T) {
	for _, n := range []int{-1, 0, 1, 9} {
		d := with(t, change{'a', 0, "ab"})
		d.Arm(0)
		answers(t, "the call that fails", d.Sync(0), api.ErrDead)
		d.Arm(n)
		for range 3 {
			answers(t, "no power", d.Sync(0), api.ErrDead)
		}
		same(t, "no power", d, paper{off: true, steps: 1})
		d.Power([]int{1})
		for range 20 {
			answers(t, "with power again", d.Sync(0), api.OK)
		}
		same(t, "with power again", d, paper{durable: [2]string{"a"}, lives: 1, steps: 21})
	}
}

func TestPowerDisarms(t *testing.T) {
	for _, n := range []int{0, 1, 5} {
		d := disk.New()
		d.Arm(n)
		d.Power(nil)
		for range 20 {
			answers(t, "nothing is armed", d.Append(0, []byte("a")), api.OK)
		}
		d.Arm(0)
		answers(t, "armed again", d.Append(0, []byte("a")), api.ErrDead)
	}
}

func TestPowerKeeps(t *testing.T) {
	cases := []struct {
		keep      []int
		zero, one string
	}{
		{nil, "ab", "pq"},
		{[]int{}, "ab", "pq"},
		{[]int{0}, "ab", "pq"},
		{[]int{1}, "abc", "pq"},
		{[]int{2}, "abcd", "pq"},
		{[]int{3}, "abcde", "pq"},
		{[]int{4}, "abcde", "pq"},
		{[]int{-1}, "ab", "pq"},
		{[]int{0, 1}, "ab", "pqr"},
		{[]int{0, 2}, "ab", "pqrs"},
		{[]int{0, 3}, "ab", "pqrs"},
		{[]int{2, 1}, "abcd", "pqr"},
		{[]int{-1, 9}, "ab", "pqrs"},
		{[]int{9, -1}, "abcde", "pq"},
		{[]int{math.MaxInt, math.MinInt}, "abcde", "pq"},
		{[]int{math.MinInt, math.MaxInt}, "ab", "pqrs"},
		{[]int{math.MaxInt, math.MaxInt}, "abcde", "pqrs"},
		{[]int{1, 1, 9, 9, 9}, "abc", "pqr"},
	}
	for _, c := range cases {
		d := with(t, change{'a', 0, "ab"}, change{'a', 1, "pq"}, change{'s', 0, ""}, change{'s', 1, ""}, change{'a', 0, "cd"}, change{'a', 0, "e"}, change{'a', 1, "rs"})
		d.Power(c.keep)
		want := paper{durable: [2]string{c.zero, c.one}, lives: 1, steps: 7}
		same(t, "Power", d, want)
		d.Power(nil)
		want.lives = 2
		same(t, "what was kept is durable", d, want)
		answers(t, "Append", d.Append(0, []byte("!!")), api.OK)
		holds(t, "Append behind what was kept", d, c.zero+"!!", c.one)
		d.Power([]int{1})
		holds(t, "Append, then torn", d, c.zero+"!", c.one)
	}
}

// The example of the chapter.
func TestExample(t *testing.T) {
	d := with(t, change{'a', 0, "ab"}, change{'s', 0, ""}, change{'a', 0, "cd"})
	d.Power([]int{1})
	holds(t, "the example", d, "abc", "")
}

func TestPowerManyTimes(t *testing.T) {
	d := disk.New()
	for i := range 50 {
		if d.Lives() != i || d.Steps() != i || d.Dead() {
			t.Errorf("Lives %d, Steps %d, Dead %t, not %d, %d", d.Lives(), d.Steps(), d.Dead(), i, i)
		}
		answers(t, "Append", d.Append(i%2, []byte{byte(i), 0}), api.OK)
		d.Power([]int{1, 1})
	}
	for f := range 2 {
		b := read(d, f)
		if len(b) != 25 {
			t.Fatalf("file %d has %d bytes, not 25", f, len(b))
		}
		for i := range 25 {
			if int(b[i]) != 2*i+f {
				t.Errorf("byte %d of file %d: %d", i, f, b[i])
			}
		}
	}
}

// everyTail lists what may be kept of the two files.
func everyTail() [][]int {
	counts := []int{math.MinInt, -1, 0, 1, 2, 3, 5, 8, 100, math.MaxInt}
	l := [][]int{nil, {}, {1, 2, 3}}
	for _, a := range counts {
		l = append(l, []int{a})
		for _, b := range counts {
			l = append(l, []int{a, b})
		}
	}
	return l
}

// TestFailureAtEveryStep lets the power fail at every change of a script, with every tail, and goes on with the script from there.
func TestFailureAtEveryStep(t *testing.T) {
	script := []change{
		{'a', 0, "one"}, {'a', 1, "12"}, {'s', 0, ""}, {'a', 0, "twotwo"}, {'a', 0, ""}, {'a', 0, "x"}, {'s', 1, ""},
		{'a', 1, "3456"}, {'c', 0, ""}, {'a', 0, "anew"}, {'s', 0, ""}, {'a', 0, "end"}, {'s', 1, ""}, {'c', 1, ""}, {'a', 1, "9"},
	}
	for n := range len(script) + 2 {
		d, p := disk.New(), paper{armed: true, left: n}
		d.Arm(n)
		at := 0
		for at < len(script) && !p.off {
			answers(t, "a change", script[at].on(d), script[at].onPaper(&p))
			at++
		}
		same(t, "armed", d, p)
		for _, keep := range everyTail() {
			c, q := d.Copy(), p
			c.Power(keep)
			q.power(keep)
			same(t, "torn", c, q)
			for _, next := range script[at:] {
				answers(t, "a change of the second life", next.on(c), next.onPaper(&q))
			}
			same(t, "the second life", c, q)
			c.Power(nil)
			q.power(nil)
			same(t, "the third life", c, q)
		}
		same(t, "what was copied", d, p)
	}
}

// What follows: what was synced survives, until the file is cleared.
func TestSyncedSurvives(t *testing.T) {
	r := rand.New(rand.NewSource(4))
	d := disk.New()
	synced := [2]string{}
	for range 5000 {
		f := r.Intn(2)
		switch r.Intn(12) {
		case 0:
			if d.Clear(f) == api.OK {
				synced[f] = ""
			}
		case 1, 2, 3:
			if d.Sync(f) == api.OK {
				synced[f] = read(d, f)
			}
		case 4:
			d.Arm(r.Intn(8))
		case 5:
			d.Power([]int{r.Intn(6) - 1, r.Intn(6) - 1})
		default:
			d.Append(f, []byte("abcdef")[:r.Intn(7)])
		}
		for f := range 2 {
			if b, e := d.Read(f); e == api.OK && !strings.HasPrefix(string(b), synced[f]) {
				t.Fatalf("file %d: %q was synced, %q is there", f, synced[f], b)
			}
		}
	}
}

// pair is a disk, and what the chapter's words make of it.
type pair struct {
	d *disk.Disk
	p *paper
}

// turn does one call, that chance chooses, to x, and fails unless it answers what the words say.
func (x pair) turn(t *testing.T, r *rand.Rand) {
	switch k := r.Intn(20); k {
	case 0:
		n := r.Intn(9) - 2
		x.d.Arm(n)
		x.p.armed, x.p.left = n >= 0, n
	case 1, 2:
		keep := make([]int, r.Intn(4))
		for i := range keep {
			keep[i] = r.Intn(12) - 2
		}
		x.d.Power(keep)
		x.p.power(keep)
	default:
		c := change{"aaaaaassc"[r.Intn(9)], r.Intn(2), "0123456789"[:r.Intn(11)]}
		if k == 3 {
			c.f = strange[r.Intn(len(strange))]
		}
		answers(t, "a change", c.on(x.d), c.onPaper(x.p))
	}
}

// TestAgainstPaper holds disks, and copies that go on by themselves, against the words of the chapter, call by call.
func TestAgainstPaper(t *testing.T) {
	for seed := range 200 {
		r := rand.New(rand.NewSource(int64(seed)))
		l := []pair{{disk.New(), &paper{}}}
		for range 150 {
			x := l[r.Intn(len(l))]
			if r.Intn(20) == 0 && len(l) < 5 {
				p := *x.p
				l = append(l, pair{x.d.Copy(), &p})
			}
			x.turn(t, r)
			for _, y := range l {
				same(t, "by chance", y.d, *y.p)
			}
		}
		if t.Failed() {
			t.Fatalf("with seed %d", seed)
		}
	}
}

func TestCopyIsEqual(t *testing.T) {
	d := with(t, change{'a', 0, "ab"}, change{'s', 0, ""}, change{'a', 0, "cd"}, change{'a', 1, "xyz"})
	d.Power([]int{1})
	answers(t, "Append", d.Append(0, []byte("EF")), api.OK)
	d.Arm(1)
	p := paper{durable: [2]string{"abc"}, pending: [2]string{"EF"}, lives: 1, steps: 5}
	c := d.Copy()
	same(t, "the copy", c, p)
	torn := c.Copy()
	torn.Power([]int{1})
	holds(t, "what is pending is pending in the copy", torn, "abcE", "")
	answers(t, "the call that is let", c.Append(1, nil), api.OK)
	answers(t, "the call that fails", c.Append(1, nil), api.ErrDead)
	same(t, "what was copied", d, p)
	answers(t, "the call that is let", d.Append(1, nil), api.OK)
	answers(t, "the call that fails", d.Append(1, nil), api.ErrDead)
}

func TestCopyWithoutPower(t *testing.T) {
	d := with(t, change{'a', 0, "ab"}, change{'a', 1, "cd"})
	d.Arm(0)
	d.Sync(1)
	c := d.Copy()
	same(t, "the copy", c, paper{off: true, steps: 2})
	c.Power([]int{1, 2})
	same(t, "the copy, with power again", c, paper{durable: [2]string{"a", "cd"}, lives: 1, steps: 2})
	same(t, "what was copied", d, paper{off: true, steps: 2})
	d.Power(nil)
	same(t, "what was copied, with power again", d, paper{lives: 1, steps: 2})
}

// Neither of the two writes where the other one reads, whichever of them is written, cleared or torn first.
func TestCopyGoesOnByItself(t *testing.T) {
	for _, size := range []int{0, 1, 7, 8, 100, 5000} {
		text := strings.Repeat("s", size)
		for _, cut := range []int{0, 1, size / 2, size} {
			d := with(t, change{'a', 0, text}, change{'a', 1, text})
			c := d.Copy()
			answers(t, "Append", d.Append(0, []byte("dddd")), api.OK)
			holds(t, "the copy", c, text, text)
			answers(t, "Append", c.Append(0, []byte("cc")), api.OK)
			holds(t, "what was copied", d, text+"dddd", text)
			d.Power([]int{cut, 0})
			answers(t, "Append", d.Append(0, []byte("new")), api.OK)
			want := (text + "dddd")[:cut] + "new"
			holds(t, "torn and written", d, want, "")
			holds(t, "the copy", c, text+"cc", text)
			answers(t, "Clear", c.Clear(0), api.OK)
			answers(t, "Append", c.Append(0, []byte("again")), api.OK)
			holds(t, "cleared and written", c, "again", text)
			holds(t, "what was copied", d, want, "")
		}
	}
}

func TestNoDisk(t *testing.T) {
	for _, d := range []*disk.Disk{nil, {}, new(disk.Disk)} {
		for range 2 {
			for _, f := range append([]int{0, 1}, strange...) {
				for _, c := range changesOf(f) {
					answers(t, "a change of no disk", c.on(d), api.ErrArg)
				}
				if b, e := d.Read(f); b != nil || e != api.ErrArg {
					t.Errorf("Read(%d) of no disk: %q %d", f, b, e)
				}
			}
			if !d.Dead() || d.Lives() != 0 || d.Steps() != 0 || d.Copy() != nil {
				t.Errorf("no disk: Dead %t, Lives %d, Steps %d, a copy %t", d.Dead(), d.Lives(), d.Steps(), d.Copy() != nil)
			}
			for _, n := range []int{math.MinInt, -1, 0, 1, math.MaxInt} {
				d.Arm(n)
			}
			for _, keep := range everyTail() {
				d.Power(keep)
			}
		}
	}
}

// R2

// What an error answers is all that it does: every error there is, and nothing that can be observed has changed.
func TestErrorsChangeNothing(t *testing.T) {
	p := paper{durable: [2]string{"ab", ""}, pending: [2]string{"cd", "xy"}, steps: 4}
	filled := func() *disk.Disk {
		return with(t, change{'a', 0, "ab"}, change{'s', 0, ""}, change{'a', 0, "cd"}, change{'a', 1, "xy"})
	}
	full := strings.Repeat("x", api.MaxFile)
	for _, c := range []change{{'a', 2, "x"}, {'s', -1, ""}, {'c', 2, ""}, {'a', 0, full}, {'a', 1, full}} {
		d := filled()
		if c.on(d) == api.OK {
			t.Errorf("%c of file %d is OK", c.kind, c.f)
		}
		same(t, "after an error", d, p)
		q := p
		d.Power([]int{1, 1})
		q.power([]int{1, 1})
		same(t, "after an error, torn", d, q)
	}
	for _, c := range []change{{'a', 0, "lost"}, {'a', 1, "lost"}, {'s', 0, ""}, {'s', 1, ""}, {'c', 0, ""}, {'c', 1, ""}} {
		for _, again := range []change{c, {'a', 0, "lost"}, {'s', 0, ""}, {'c', 1, ""}} {
			d, q := filled(), p
			d.Arm(0)
			answers(t, "the call that fails", c.on(d), api.ErrDead)
			answers(t, "the next one", again.on(d), api.ErrDead)
			d.Power([]int{1, 1})
			q.power([]int{1, 1})
			same(t, "after a failure, torn", d, q)
		}
	}
}

// R3

func TestArgumentsAreCopied(t *testing.T) {
	whole := []byte("abcdEEEE")
	b := whole[:4]
	d := disk.New()
	answers(t, "Append", d.Append(0, b), api.OK)
	answers(t, "Append", d.Append(0, []byte("fg")), api.OK)
	if string(whole) != "abcdEEEE" {
		t.Errorf("Append writes behind its argument: %q", whole)
	}
	clear(whole)
	holds(t, "the argument has changed since", d, "abcdfg", "")

	list := []int{1, -1, 7, 7}
	d.Power(list[:2])
	if list[0] != 1 || list[1] != -1 || list[2] != 7 || list[3] != 7 {
		t.Errorf("Power writes into its argument: %v", list)
	}
}

func TestReadIsNewMemory(t *testing.T) {
	d := with(t, change{'a', 0, "ab"}, change{'s', 0, ""}, change{'a', 0, strings.Repeat("c", 99)})
	want := "ab" + strings.Repeat("c", 99)
	one, _ := d.Read(0)
	two, _ := d.Read(0)
	clear(one)
	clear(append(one, "XXXXXXXX"...))
	if string(two) != want {
		t.Errorf("two results of Read share memory: %q", two)
	}
	holds(t, "a result has changed since", d, want, "")
	answers(t, "Append", d.Append(0, []byte("dd")), api.OK)
	d.Power([]int{3})
	answers(t, "Append", d.Append(0, []byte("eeee")), api.OK)
	answers(t, "Clear", d.Clear(0), api.OK)
	answers(t, "Append", d.Append(0, []byte("ffff")), api.OK)
	if string(two) != want {
		t.Errorf("a result of Read changes with the file: %q", two)
	}
}

// What was read can be appended to the file that it came from.
func TestAppendOfWhatWasRead(t *testing.T) {
	d := with(t, change{'a', 0, "ab"})
	for range 5 {
		b, _ := d.Read(0)
		answers(t, "Append", d.Append(0, b), api.OK)
	}
	holds(t, "doubled five times", d, strings.Repeat("ab", 32), "")
}

// A nil slice and an empty one are the same.
func TestNilAndEmpty(t *testing.T) {
	for _, b := range [][]byte{nil, {}, []byte("abc")[:0]} {
		d := with(t, change{'a', 0, "x"})
		answers(t, "Append of no bytes", d.Append(0, b), api.OK)
		answers(t, "Append of no bytes", d.Append(1, b), api.OK)
		same(t, "no bytes", d, paper{pending: [2]string{"x"}, steps: 3})
	}
}
