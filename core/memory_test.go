package core_test

import (
	"math"
	"math/rand"
	"slices"
	"testing"

	"antipode/api"
	"antipode/core"
)

// R1 to R4, for cores that are valid and for those that are not.

// guard gives es with something behind its end, and tells whether all of it is still so.
func guard(es []api.Entry) (g []api.Entry, is func() bool) {
	whole := slices.Clone(es)
	for range 5 {
		whole = append(whole, api.Entry{Term: 77, Kind: 777, Data: "spare"})
	}
	want := slices.Clone(whole)
	return whole[:len(es)], func() bool { return slices.Equal(whole, want) }
}

// spoil writes over all memory of es, also over what lies behind its end.
func spoil(es []api.Entry) {
	for i := range es[:cap(es)] {
		es[:cap(es)][i] = api.Entry{Term: 66, Kind: 666, Data: "spoilt"}
	}
}

// call is a call that answers a core.
type call struct {
	name string
	do   func(c api.Core, m api.Msg) (api.Core, []api.Msg)
}

// calls lists calls of all such functions.
func calls() []call {
	return []call{
		{"Tick", func(c api.Core, m api.Msg) (api.Core, []api.Msg) { return core.Tick(c) }},
		{"Step", core.Step},
		{"Propose", func(c api.Core, m api.Msg) (api.Core, []api.Msg) {
			d, out, _, _ := core.Propose(c, api.Entry{Kind: api.EntryCmd, Data: "new"})
			return d, out
		}},
		{"Propose a change", func(c api.Core, m api.Msg) (api.Core, []api.Msg) {
			j := c.Log.Conf
			for _, e := range c.Log.Entries {
				if e.Kind == api.EntryConf {
					j = e.Conf
				}
			}
			d, out, _, _ := core.Propose(c, api.Entry{Kind: api.EntryConf, Conf: api.Joint{New: j.Old}})
			return d, out
		}},
		{"Compact to Base", func(c api.Core, m api.Msg) (api.Core, []api.Msg) {
			d, _ := core.Compact(c, c.Log.Base, "new")
			return d, nil
		}},
		{"Compact to Commit", func(c api.Core, m api.Msg) (api.Core, []api.Msg) {
			d, _ := core.Compact(c, c.Commit, "new")
			return d, nil
		}},
		{"Restart", func(c api.Core, m api.Msg) (api.Core, []api.Msg) { return core.Restart(c), nil }},
	}
}

// lists gives all lists of entries of an answer.
func lists(c api.Core, out []api.Msg) [][]api.Entry {
	all := [][]api.Entry{c.Log.Entries}
	for _, m := range out {
		all = append(all, m.Entries)
	}
	return all
}

// copied gives what the lists have, in other memory.
func copied(all [][]api.Entry) [][]api.Entry {
	var out [][]api.Entry
	for _, es := range all {
		out = append(out, slices.Clone(es))
	}
	return out
}

func sameLists(a, b [][]api.Entry) bool {
	return slices.EqualFunc(a, b, slices.Equal[[]api.Entry])
}

// fresh fails unless all that the call answers is memory of its own.
func fresh(t *testing.T, f call, c api.Core, m api.Msg) {
	t.Helper()
	var ownIs, theirIs func() bool
	c.Log.Entries, ownIs = guard(c.Log.Entries)
	m.Entries, theirIs = guard(m.Entries)
	unchanged := func() bool { return ownIs() && theirIs() }
	d, out := f.do(c, m)
	if !unchanged() {
		t.Fatalf("%s changed %+v or %+v", f.name, c, m)
	}
	first := lists(d, out)
	want := copied(first)
	again, outAgain := f.do(c, m)
	if !sameCore(again, d) || !sameMsgs(outAgain, out) {
		t.Fatalf("%s of %+v and %+v: once %+v, once %+v", f.name, c, m, d, again)
	}
	second := lists(again, outAgain)
	for i, es := range second {
		rest := copied(second[i+1:])
		spoil(append(es, api.Entry{}))
		spoil(es)
		if !unchanged() || !sameLists(first, want) || !sameLists(second[i+1:], rest) {
			t.Fatalf("%s of %+v and %+v: list %d shares memory with them, or with another list", f.name, c, m, i)
		}
	}
	clear(outAgain)
	spoil(c.Log.Entries)
	spoil(m.Entries)
	if !sameLists(lists(d, out), want) {
		t.Fatalf("%s of %+v and %+v hangs on them", f.name, c, m)
	}
}

func TestAnswersAreNewMemory(t *testing.T) {
	r := rand.New(rand.NewSource(3))
	for range 3000 {
		c := anyCore(r)
		for _, f := range calls() {
			fresh(t, f, c, anyMsg(r, c))
		}
	}
	for range 1000 {
		c := oddCore(r)
		for _, f := range calls() {
			fresh(t, f, c, oddMsg(r, c))
		}
	}
}

// A Leader that sends to many gives each of them entries of its own, which none of the others has.
func TestAllAreSentTheirOwn(t *testing.T) {
	c := ahead()
	c.Wait, c.Next = 1, [10]int{2: 6, 3: 6, 4: 6}
	_, out := core.Tick(c)
	if len(out) != 3 || len(out[0].Entries) != 8 || !slices.Equal(out[0].Entries, out[2].Entries) {
		t.Fatalf("%+v", out)
	}
	spoil(out[0].Entries)
	if !slices.Equal(out[1].Entries, c.Log.Entries[:8]) || !slices.Equal(out[2].Entries, c.Log.Entries[:8]) {
		t.Errorf("%+v", out)
	}
}

// Lists without entries are all the same.
func TestNilAndEmpty(t *testing.T) {
	whole := cmds(5, 2, 2)
	for _, none := range [][]api.Entry{nil, {}, make([]api.Entry, 0, 9), whole[:0], whole[2:]} {
		c := follower(1, 5, alone(three()), 5, 2)
		c.Log.Entries = none
		if !core.May(c) {
			t.Errorf("%#v", none)
		}
		m := to(api.MsgAppend, func(m *api.Msg) { m.Index, m.LogTerm, m.Entries = 5, 2, none })
		step{"nothing", c, m, heeds, []api.Msg{answer(api.MsgAck, 5, true)}}.check(t)
		m = to(api.MsgLend, func(m *api.Msg) { m.Index, m.LogTerm, m.Entries = 5, 2, none })
		step{"nothing", c, m, nil, nil}.check(t)
	}
}

// odd gives a number, mostly one that nothing may be.
func odd(r *rand.Rand) int {
	return anyOf(r, 0, 1, 2, 3, 5, 9, 10, -1, -2, -9, 1<<31, 1<<32, top, top+1, 2*top, 2*top+1, 1<<62, -1<<62, math.MaxInt, math.MaxInt-1, math.MaxInt-3, math.MinInt, math.MinInt+1, math.MinInt+3)
}

func oddConfig(r *rand.Rand) api.Config {
	set := func() api.Set { return api.Set(r.Intn(1 << 16)) }
	return api.Config{Voters: set(), Witnesses: set(), Learners: set(), Elect: odd(r), Commit: odd(r)}
}

func oddJoint(r *rand.Rand) api.Joint {
	return anyOf(r, api.Joint{}, alone(oddConfig(r)), both(oddConfig(r), oddConfig(r)), anyOf(r, joints()...))
}

func oddEntries(r *rand.Rand) []api.Entry {
	var es []api.Entry
	for range r.Intn(5) {
		es = append(es, api.Entry{Term: odd(r), Kind: anyOf(r, 0, 1, 2, 2, odd(r)), Conf: oddJoint(r)})
	}
	return es
}

// oddCore gives a core, mostly one that is not valid.
func oddCore(r *rand.Rand) api.Core {
	c := anyCore(r)
	for _, n := range []*int{&c.ID, &c.Role, &c.Term, &c.Vote, &c.Lead, &c.Wait, &c.Commit, &c.Safe, &c.Log.Base, &c.Log.BaseTerm, &c.Next[r.Intn(10)], &c.Match[r.Intn(10)]} {
		if r.Intn(4) == 0 {
			*n = odd(r)
		}
	}
	if r.Intn(3) == 0 {
		c.Log.Entries = oddEntries(r)
	}
	if r.Intn(3) == 0 {
		c.Log.Conf = oddJoint(r)
	}
	if r.Intn(3) == 0 {
		for n := range c.Next {
			c.Next[n], c.Match[n] = odd(r), odd(r)
		}
	}
	return c
}

// oddMsg gives a message, mostly one that is none but comes to c.
func oddMsg(r *rand.Rand, c api.Core) api.Msg {
	m := anyMsg(r, anyCore(r))
	m.To, m.Term = c.ID, anyOf(r, c.Term, c.Term, m.Term, m.Term+1)
	for _, n := range []*int{&m.Index, &m.LogTerm, &m.Commit, &m.Safe} {
		if r.Intn(3) == 0 {
			*n = odd(r)
		}
	}
	if r.Intn(4) == 0 {
		m.Kind, m.From, m.To, m.Term = odd(r), odd(r), odd(r), odd(r)
	}
	if r.Intn(3) == 0 {
		m.Entries, m.Conf = oddEntries(r), oddJoint(r)
	}
	return m
}

// Whatever the cores and the messages are, each call ends, and none panics; beside an error there is nothing else.
func TestNoArgumentsPanic(t *testing.T) {
	r := rand.New(rand.NewSource(7))
	for range 15000 {
		c := oddCore(r)
		core.May(c)
		core.New(odd(r), oddJoint(r))
		core.Patience(odd(r))
		core.Restart(c)
		core.Tick(c)
		if d, e := core.Compact(c, anyOf(r, odd(r), c.Commit, c.Log.Base, c.Commit-1), "new"); e != api.OK && !sameCore(d, api.Core{}) {
			t.Fatalf("Compact of %+v: %+v", c, d)
		}
		for range 3 {
			core.Step(c, oddMsg(r, c))
			e := api.Entry{Kind: anyOf(r, 1, 2, odd(r)), Conf: oddJoint(r)}
			if d, out, index, err := core.Propose(c, e); err != api.OK && (!sameCore(d, api.Core{}) || out != nil || index != 0) {
				t.Fatalf("Propose %+v to %+v: %+v", e, c, d)
			}
		}
	}
}
