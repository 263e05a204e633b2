package core_test

import (
	"math"
	"testing"

	"antipode/api"
	"antipode/core"
)

// P13.5

// step is a message, and what it makes of a core: a change, and answers.
type step struct {
	name   string
	c      api.Core
	m      api.Msg
	change func(c *api.Core) // nil: nothing
	out    []api.Msg
}

func (s step) check(t *testing.T) {
	t.Helper()
	if !core.May(s.c) {
		t.Fatalf("%s: %+v is not valid", s.name, s.c)
	}
	want := s.c
	if s.change != nil {
		want = with(s.c, s.change)
	}
	got, out := core.Step(s.c, s.m)
	expect(t, s.name, got, out, want, s.out...)
}

// Messages between the cores 1 and 2 of three, in the Term 5, unless a test says otherwise.

// to gives a message of 2 to 1.
func to(kind int, fill func(m *api.Msg)) api.Msg {
	m := api.Msg{Kind: kind, From: 2, To: 1, Term: 5}
	if fill != nil {
		fill(&m)
	}
	return m
}

// answer gives a message of 1 to 2.
func answer(kind, index int, yes bool) api.Msg {
	return api.Msg{Kind: kind, From: 1, To: 2, Term: 5, Index: index, Yes: yes}
}

// mine gives the core 1 in that Role, with the entries 6 and 7 of term 2 and 8 of term 4, of which up to 6 are committed.
func mine(role int) api.Core {
	c := follower(1, 5, alone(three()), 5, 2, 2, 2, 4)
	c.Role, c.Commit, c.Safe, c.Wait, c.Snap = role, 6, 5, 7, "own"
	c.Next, c.Match = [10]int{9, 9, 9, 9, 9, 9, 9, 9, 9, 9}, [10]int{1: 8}
	switch role {
	case api.Candidate:
		c.Vote, c.Votes = 1, of(1)
	case api.Leader:
		c.Vote, c.Votes, c.Lead = 1, of(1, 3), 1
	}
	return c
}

func roles() []int { return []int{api.Follower, api.Candidate, api.Leader} }

// heeds is what an append or a snapshot of 2 does to a core that is no Leader, whatever it has.
func heeds(c *api.Core) { c.Role, c.Lead, c.Wait = api.Follower, 2, 0 }

// TestStepIgnores changes one thing of messages that do something: they do nothing then, not even by a later Term.
func TestStepIgnores(t *testing.T) {
	for kind := 1; kind <= 6; kind++ {
		for _, term := range []int{4, 5, 6} {
			for _, role := range roles() {
				for name, spoil := range map[string]func(m *api.Msg){
					"to 0": func(m *api.Msg) { m.To = 0 }, "to another one": func(m *api.Msg) { m.To = 3 }, "to none": func(m *api.Msg) { m.To = -1 },
					"of 0": func(m *api.Msg) { m.From = 0 }, "of 10": func(m *api.Msg) { m.From = 10 }, "of -1": func(m *api.Msg) { m.From = -1 }, "of far above": func(m *api.Msg) { m.From = math.MaxInt }, "of itself": func(m *api.Msg) { m.From = 1 },
					"the Term 0": func(m *api.Msg) { m.Term = 0 }, "the Term -1": func(m *api.Msg) { m.Term = -1 }, "the Term above the last one": func(m *api.Msg) { m.Term = top + 1 }, "the greatest Term": func(m *api.Msg) { m.Term = math.MaxInt }, "the least Term": func(m *api.Msg) { m.Term = math.MinInt },
					"of no kind": func(m *api.Msg) { m.Kind = 0 }, "of the kind 7": func(m *api.Msg) { m.Kind = 7 }, "of the kind -1": func(m *api.Msg) { m.Kind = -1 },
				} {
					m := to(kind, func(m *api.Msg) {
						m.Term, m.Index, m.LogTerm, m.Yes, m.Conf = term, 8, 4, true, alone(three())
						spoil(m)
					})
					step{name, mine(role), m, nil, nil}.check(t)
				}
			}
		}
	}
	// A core that has no Term yet hears nothing of the Term 0.
	for kind := 1; kind <= 6; kind++ {
		step{"the Term 0 of both", core.New(1, alone(three())), to(kind, func(m *api.Msg) { m.Term, m.Conf = 0, alone(three()) }), nil, nil}.check(t)
	}
}

// The ends of what is heard: nodes from 1 to 9, Terms from 1 to MaxTerm.
func TestStepHears(t *testing.T) {
	for _, from := range []int{2, 3, 4, 5, 9} {
		step{"of a node", mine(api.Follower), to(api.MsgAsk, func(m *api.Msg) { m.From, m.Term = from, 4 }), nil, []api.Msg{{Kind: api.MsgVote, From: 1, To: from, Term: 5}}}.check(t)
	}
	c := mine(api.Follower)
	c.ID = 9
	step{"of the node 1", c, api.Msg{Kind: api.MsgAppend, From: 1, To: 9, Term: 1}, nil, []api.Msg{{Kind: api.MsgAck, From: 9, To: 1, Term: 5}}}.check(t)
	step{"the last Term", mine(api.Follower), to(api.MsgVote, func(m *api.Msg) { m.Term = top }), func(c *api.Core) { c.Term = top }, nil}.check(t)
	step{"the first Term", core.New(1, alone(three())), to(api.MsgVote, func(m *api.Msg) { m.Term = 1 }), func(c *api.Core) { c.Term = 1 }, nil}.check(t)
}

// A MsgAsk does not disturb a Leader, nor one that has heard of a Leader not long ago.
func TestStepIgnoresAsks(t *testing.T) {
	for _, term := range []int{4, 5, 6, top} {
		ask := to(api.MsgAsk, func(m *api.Msg) { m.Term, m.Index, m.LogTerm = term, 8, 4 })
		for _, wait := range []int{0, 9, 10, 11, 99} {
			c := mine(api.Leader)
			c.Wait = wait
			step{"a Leader", c, ask, nil, nil}.check(t)
			for _, role := range []int{api.Follower, api.Candidate} {
				for _, lead := range []int{0, 2, 3, 9} {
					c := mine(role)
					c.Wait, c.Lead = wait, lead
					got, out := core.Step(c, ask)
					if heard := lead == 0 || wait >= 10; heard != (len(out) == 1) || !heard && !sameCore(got, c) {
						t.Errorf("Lead %d, Wait %d: %+v %+v", lead, wait, got, out)
					}
				}
			}
		}
	}
	// All other kinds come through, whatever was heard.
	for kind := 2; kind <= 6; kind++ {
		c := mine(api.Follower)
		c.Lead, c.Wait = 3, 0
		if got, _ := core.Step(c, to(kind, func(m *api.Msg) { m.Term = 6 })); got.Term != 6 {
			t.Errorf("the kind %d: %+v", kind, got)
		}
	}
}

func TestStepOfALaterTerm(t *testing.T) {
	for kind := 1; kind <= 6; kind++ {
		for _, role := range roles() {
			if kind == api.MsgAsk && role == api.Leader {
				continue
			}
			for _, term := range []int{6, 7, top} {
				c := mine(role)
				c.Heard, c.Votes, c.Lead, c.Wait = of(3), of(1, 3), 3, 11
				m := to(kind, func(m *api.Msg) { m.Term, m.Index, m.Yes, m.LogTerm = term, 99, true, -1 })
				// By these fields a MsgAppend fails, a MsgSnap and a MsgLend do nothing, and the others find no Candidate and no Leader.
				wants := func(c *api.Core) {
					if role == api.Leader {
						c.Wait = 0
					}
					c.Term, c.Vote, c.Lead, c.Role = term, 0, 0, api.Follower
					if kind == api.MsgAppend {
						heeds(c)
					}
				}
				out := map[int][]api.Msg{
					api.MsgAsk:    {answer(api.MsgVote, 0, false), {Kind: api.MsgLend, From: 1, To: 2, Index: 5, LogTerm: 2, Entries: c.Log.Entries}},
					api.MsgAppend: {answer(api.MsgAck, 8, false)},
				}[kind]
				for i := range out {
					out[i].Term = term
				}
				step{"a later Term", c, m, wants, out}.check(t)
			}
		}
	}
}

func TestStepOfAnElderTerm(t *testing.T) {
	for kind := 1; kind <= 6; kind++ {
		for _, role := range roles() {
			if kind == api.MsgAsk && role == api.Leader {
				continue
			}
			for _, term := range []int{1, 4} {
				// In the core's own Term each of them would do something.
				m := to(kind, func(m *api.Msg) {
					m.Term, m.Index, m.LogTerm, m.Yes, m.Conf, m.Entries, m.Commit, m.Safe = term, 8, 4, true, alone(three()), cmds(8, 4), 9, 9
				})
				var out []api.Msg
				switch kind {
				case api.MsgAsk:
					out = []api.Msg{answer(api.MsgVote, 0, false)}
				case api.MsgAppend, api.MsgSnap:
					out = []api.Msg{answer(api.MsgAck, 0, false)}
				}
				step{"an elder Term", mine(role), m, nil, out}.check(t)
			}
		}
	}
	// That answer comes ahead of all that is asked of a message's content.
	for name, m := range map[string]api.Msg{
		"entries": to(api.MsgAppend, func(m *api.Msg) { m.Term, m.Entries = 4, cmds(0, 9) }),
		"Conf":    to(api.MsgSnap, func(m *api.Msg) { m.Term = 4 }),
	} {
		step{name, mine(api.Follower), m, nil, []api.Msg{answer(api.MsgAck, 0, false)}}.check(t)
	}
}

// An Index, a Commit and a Safe that no core has count as the nearest one.
func TestStepBounds(t *testing.T) {
	for _, n := range []int{-1, -2, -top, math.MinInt} {
		step{"an Index of MsgAppend below 0", core.New(1, alone(three())), to(api.MsgAppend, func(m *api.Msg) { m.Index, m.Entries = n, cmds(0, 1, 1) }),
			func(c *api.Core) { heeds(c); c.Term, c.Log.Entries = 5, cmds(0, 1, 1) }, []api.Msg{answer(api.MsgAck, 2, true)}}.check(t)
		step{"a Commit and a Safe below 0", mine(api.Follower), to(api.MsgAppend, func(m *api.Msg) { m.Index, m.LogTerm, m.Commit, m.Safe = 8, 4, n, n }), heeds, []api.Msg{answer(api.MsgAck, 8, true)}}.check(t)
		step{"an Index and a Safe of MsgSnap below 0", mine(api.Follower), to(api.MsgSnap, func(m *api.Msg) { m.Index, m.Safe, m.Conf = n, n, alone(one()) }), heeds, []api.Msg{answer(api.MsgAck, 6, true)}}.check(t)
		c := mine(api.Leader)
		step{"an Index of MsgAck below 0", c, to(api.MsgAck, func(m *api.Msg) { m.Index = n }), func(c *api.Core) { c.Heard, c.Next[2] = of(2), 1 }, []api.Msg{sends(c, 2)}}.check(t)
		step{"an Index of MsgAck below 0, Yes", c, to(api.MsgAck, func(m *api.Msg) { m.Index, m.Yes = n, true }), func(c *api.Core) { c.Heard, c.Next[2] = of(2), 1 }, []api.Msg{sends(c, 2)}}.check(t)
		step{"an Index of MsgAsk below 0", follower(1, 5, alone(three()), 0, 4), to(api.MsgAsk, func(m *api.Msg) { m.Index, m.LogTerm = n, 4 }), func(c *api.Core) { c.Vote = 2 }, []api.Msg{answer(api.MsgVote, 0, true)}}.check(t)
		step{"an Index of MsgLend below 0", core.New(1, alone(three())), to(api.MsgLend, func(m *api.Msg) { m.Index, m.Entries = n, cmds(0, 1, 1) }), func(c *api.Core) { c.Term, c.Log.Entries = 5, cmds(0, 1, 1) }, nil}.check(t)
	}
	for _, n := range []int{top, top + 1, 2 * top, math.MaxInt - 1, math.MaxInt} {
		step{"an Index of MsgSnap at the end", mine(api.Follower), to(api.MsgSnap, func(m *api.Msg) { m.Index, m.LogTerm, m.Safe, m.Conf, m.Snap = n, 5, n, alone(one()), "their" }),
			func(c *api.Core) {
				heeds(c)
				c.Safe, c.Commit, c.Snap, c.Match = top, top, "their", [10]int{1: 8}
				c.Log = api.Log{Base: top, BaseTerm: 5, Conf: alone(one())}
			}, []api.Msg{answer(api.MsgAck, top, true)}}.check(t)
		step{"a Commit and a Safe at the end", mine(api.Follower), to(api.MsgAppend, func(m *api.Msg) { m.Index, m.LogTerm, m.Commit, m.Safe = 7, 2, n, n }),
			func(c *api.Core) { heeds(c); c.Commit, c.Safe = 7, top }, []api.Msg{answer(api.MsgAck, 7, true)}}.check(t)
		step{"an Index of MsgAppend at the end", mine(api.Follower), to(api.MsgAppend, func(m *api.Msg) { m.Index, m.LogTerm, m.Safe = n, 4, n }), heeds, []api.Msg{answer(api.MsgAck, 8, false)}}.check(t)
		step{"an Index of MsgLend at the end", mine(api.Follower), to(api.MsgLend, func(m *api.Msg) { m.Index, m.LogTerm, m.Entries = n, 4, cmds(8, 5) }), nil, nil}.check(t)
	}
	// A log may go on above MaxTerm, a message's Commit may not.
	for n, want := range map[int]int{top - 1: top, top: top, top + 1: top, math.MaxInt: top} {
		c := follower(1, 5, alone(three()), top, 4)
		step{"a Commit above the end", c, to(api.MsgAppend, func(m *api.Msg) { m.Index, m.LogTerm, m.Entries, m.Commit = top, 4, cmds(top, 5, 5), n }),
			func(c *api.Core) { heeds(c); c.Log.Entries, c.Commit = cmds(top, 5, 5), want }, []api.Msg{answer(api.MsgAck, top+2, true)}}.check(t)
	}
	// MaxTerm itself is told a core with a Base there; what is above counts as it.
	for n, term := range map[int]int{top: 4, top + 1: 4, math.MaxInt: 4, top - 1: 0} {
		c := follower(1, 5, alone(three()), top, 4, 5)
		wants := []api.Msg{answer(api.MsgVote, 0, false), {Kind: api.MsgLend, From: 1, To: 2, Term: 5, Index: top, LogTerm: 4, Entries: c.Log.Entries}}
		step{"an Index of MsgAsk at the end", c, to(api.MsgAsk, func(m *api.Msg) { m.Index, m.LogTerm = n, term }), nil, wants}.check(t)
		step{"an Index of MsgAppend at the end, there", c, to(api.MsgAppend, func(m *api.Msg) { m.Index, m.LogTerm, m.Entries = max(n, top), 4, cmds(top, 5) }),
			heeds, []api.Msg{answer(api.MsgAck, top+1, true)}}.check(t)
	}
}

// sends gives what the Leader c sends to n by its log after a MsgAck by which Next is 1: its snapshot.
func sends(c api.Core, n int) api.Msg {
	return api.Msg{Kind: api.MsgSnap, From: c.ID, To: n, Term: c.Term, Index: c.Log.Base, LogTerm: c.Log.BaseTerm, Snap: c.Snap, Conf: c.Log.Conf, Commit: c.Commit, Safe: c.Safe}
}

// MsgAsk

// lends gives a MsgLend of 1 to 2.
func lends(index, term int, es ...api.Entry) api.Msg {
	return api.Msg{Kind: api.MsgLend, From: 1, To: 2, Term: 5, Index: index, LogTerm: term, Entries: es}
}

func TestStepAskOfWhoIsUpToDate(t *testing.T) {
	ends := [][2]int{{8, 4}, {9, 4}, {7, 5}, {0, 5}, {0, 99}, {top, math.MaxInt}}
	for _, end := range ends {
		m := to(api.MsgAsk, func(m *api.Msg) { m.Index, m.LogTerm, m.Commit, m.Yes = end[0], end[1], 99, true })
		for _, vote := range []int{0, 2, 1, 3, 9} {
			for _, wait := range []int{0, 7, 10} {
				for _, role := range []int{api.Follower, api.Candidate} {
					c := mine(role)
					c.Vote, c.Wait = vote, wait
					s := step{"no", c, m, nil, []api.Msg{answer(api.MsgVote, 0, false)}}
					if role == api.Follower && (vote == 0 || vote == 2) {
						s = step{"yes", c, m, func(c *api.Core) { c.Vote, c.Wait = 2, 0 }, []api.Msg{answer(api.MsgVote, 0, true)}}
					}
					s.check(t)
				}
			}
		}
	}
	// Witnesses, learners and strangers give votes, too, and to anybody.
	for id := 2; id <= 9; id++ {
		c := mine(api.Follower)
		c.ID = id
		step{"yes", c, api.Msg{Kind: api.MsgAsk, From: 1, To: id, Term: 5, Index: 8, LogTerm: 4}, func(c *api.Core) { c.Vote, c.Wait = 1, 0 }, []api.Msg{{Kind: api.MsgVote, From: id, To: 1, Term: 5, Yes: true}}}.check(t)
		if id != 2 {
			step{"yes", mine(api.Follower), api.Msg{Kind: api.MsgAsk, From: id, To: 1, Term: 5, Index: 8, LogTerm: 4}, func(c *api.Core) { c.Vote, c.Wait = id, 0 }, []api.Msg{{Kind: api.MsgVote, From: 1, To: id, Term: 5, Yes: true}}}.check(t)
		}
	}
	// One that voted for somebody else in an elder Term is free.
	c := mine(api.Follower)
	c.Vote, c.Lead, c.Wait = 3, 3, 10
	want := answer(api.MsgVote, 0, true)
	want.Term = 6
	step{"a later Term", c, to(api.MsgAsk, func(m *api.Msg) { m.Term, m.Index, m.LogTerm = 6, 8, 4 }), func(c *api.Core) { c.Term, c.Vote, c.Lead, c.Wait = 6, 2, 0, 0 }, []api.Msg{want}}.check(t)
	c = mine(api.Candidate)
	step{"a later Term, a Candidate", c, to(api.MsgAsk, func(m *api.Msg) { m.Term, m.Index, m.LogTerm = 6, 8, 4 }), func(c *api.Core) { c.Term, c.Vote, c.Role, c.Wait = 6, 2, api.Follower, 0 }, []api.Msg{want}}.check(t)
}

func TestStepAskLends(t *testing.T) {
	es := mine(api.Follower).Log.Entries
	cases := []struct{ index, term, from, fromTerm int }{ // how the sender's log ends, and behind which number it is lent entries
		{7, 2, 7, 2}, {6, 2, 6, 2}, {5, 2, 5, 2}, {7, 4, 5, 2}, {6, 4, 5, 2}, {5, 4, 5, 2}, {8, 2, 5, 2}, {8, 3, 5, 2}, {9, 3, 5, 2}, {99, 2, 5, 2}, {top, 2, 5, 2},
		{7, 1, 5, 2}, {7, 3, 5, 2}, {5, 3, 5, 2}, {5, 1, 5, 2}, {4, 2, 5, 2}, {4, 0, 5, 2}, {0, 0, 5, 2}, {0, 4, 5, 2}, {8, -1, 5, 2}, {4, math.MinInt, 5, 2}, {9, 0, 5, 2},
	}
	for _, x := range cases {
		for _, vote := range []int{0, 1, 2, 3} {
			for _, role := range []int{api.Follower, api.Candidate} {
				c := mine(role)
				c.Vote = vote
				m := to(api.MsgAsk, func(m *api.Msg) { m.Index, m.LogTerm, m.Commit = x.index, x.term, 99 })
				step{"lent", c, m, nil, []api.Msg{answer(api.MsgVote, 0, false), lends(x.from, x.fromTerm, es[x.from-5:]...)}}.check(t)
			}
		}
	}
	// All entries are lent, also more than a MsgAppend has.
	long := follower(1, 5, alone(three()), 0, 0, 1, 1, 1, 1, 1, 1, 1, 1, 1, 1, 1, 1)
	m := to(api.MsgAsk, func(m *api.Msg) { m.Index, m.LogTerm = 1, 1 })
	step{"many", long, m, nil, []api.Msg{answer(api.MsgVote, 0, false), lends(1, 1, long.Log.Entries[1:]...)}}.check(t)
	// A log without entries lends its Base.
	none := follower(1, 5, alone(three()), 5, 2)
	for _, x := range [][2]int{{4, 2}, {5, 1}, {9, 1}, {0, 0}} {
		m := to(api.MsgAsk, func(m *api.Msg) { m.Index, m.LogTerm = x[0], x[1] })
		step{"nothing but Base", none, m, nil, []api.Msg{answer(api.MsgVote, 0, false), lends(5, 2)}}.check(t)
	}
}

// MsgVote

func TestStepVote(t *testing.T) {
	for _, role := range roles() {
		for _, yes := range []bool{false, true} {
			for from := 2; from <= 9; from++ {
				m := api.Msg{Kind: api.MsgVote, From: from, To: 1, Term: 5, Yes: yes}
				c := mine(role)
				got, out := core.Step(c, m)
				switch counts := role == api.Candidate && yes; {
				case counts && from <= 3:
					// That a win does all that P13.3 says of it is tested there.
					if got.Role != api.Leader || len(out) != 3 || got.Votes != of(1, from) {
						t.Errorf("%d: %+v %+v", from, got, out)
					}
				case counts:
					expect(t, "of one without a vote", got, out, with(c, func(c *api.Core) { c.Votes = of(1, from) }))
				default:
					expect(t, "no vote", got, out, c)
				}
			}
		}
	}
	// One voter of nine after the other, and one of them again and again.
	c := mine(api.Candidate)
	c.Log.Conf = alone(api.Config{Voters: of(1, 2, 3, 4, 5, 6, 7, 8, 9), Elect: 5, Commit: 5})
	votes := of(1)
	for _, from := range []int{9, 9, 4, 9, 4, 6, 6} {
		votes |= of(from)
		want := with(c, func(c *api.Core) { c.Votes = votes })
		got, out := core.Step(c, api.Msg{Kind: api.MsgVote, From: from, To: 1, Term: 5, Yes: true})
		expect(t, "one of nine", got, out, want)
		c = got
	}
	if got, out := core.Step(c, api.Msg{Kind: api.MsgVote, From: 2, To: 1, Term: 5, Yes: true}); got.Role != api.Leader || len(out) != 8 || got.Lead != 1 {
		t.Errorf("the fifth one: %+v %+v", got, out)
	}
	// Both configurations must elect.
	c = mine(api.Candidate)
	c.Log.Conf = both(three(), api.Config{Voters: of(1, 4), Witnesses: of(3), Elect: 3, Commit: 2})
	for _, x := range []struct {
		votes api.Set
		from  int
		wins  bool
	}{{of(1), 2, false}, {of(1), 3, false}, {of(1), 4, false}, {of(1, 3), 2, false}, {of(1, 3), 4, true}, {of(1, 4), 3, true}, {of(1, 2), 4, false}} {
		c.Votes = x.votes
		if got, _ := core.Step(c, api.Msg{Kind: api.MsgVote, From: x.from, To: 1, Term: 5, Yes: true}); got.Role == api.Leader != x.wins {
			t.Errorf("%d with %#x: %+v", x.from, x.votes, got)
		}
	}
}

// MsgLend

func TestStepLend(t *testing.T) {
	cases := []struct {
		name   string
		index  int
		term   int
		es     []api.Entry
		commit int // of the core, before
		want   []api.Entry
		after  int
	}{
		{"of an elder number, later entries", 6, 2, cmds(6, 3, 5), 6, append(cmds(5, 2), cmds(6, 3, 5)...), 6},
		{"of Last", 8, 4, cmds(8, 4), 6, cmds(5, 2, 2, 4, 4), 6}, {"of Base", 5, 2, cmds(5, 2, 2, 4, 5), 6, cmds(5, 2, 2, 4, 5), 6}, {"of below Base", 3, 9, cmds(3, 5, 5, 2, 2, 4, 4), 6, cmds(5, 2, 2, 4, 4), 6},
		{"just as far", 7, 2, cmds(7, 5), 6, cmds(5, 2, 2, 5), 6}, {"nothing new", 5, 2, cmds(5, 2, 2, 4), 6, cmds(5, 2, 2, 4), 6}, {"less than it has, the same", 5, 2, cmds(5, 2), 6, cmds(5, 2, 2, 4), 6}, {"no entries", 7, 2, nil, 6, cmds(5, 2, 2, 4), 6},
		{"shorter, of a later term", 6, 2, cmds(6, 5), 6, cmds(5, 2, 5), 6}, {"it ends below Commit", 6, 2, cmds(6, 5), 8, cmds(5, 2, 5), 7}, {"it ends below Commit, at Base + 1", 5, 2, cmds(5, 5), 7, cmds(5, 5), 6}, {"it ends at Commit", 6, 2, cmds(6, 5), 7, cmds(5, 2, 5), 7}, {"it ends above Commit", 6, 2, cmds(6, 5, 5), 7, cmds(5, 2, 5, 5), 7},
		{"all is committed, and more is lent", 8, 4, cmds(8, 4, 5), 8, cmds(5, 2, 2, 4, 4, 5), 8},
		{"an elder term", 7, 2, cmds(7, 3), 6, cmds(5, 2, 2, 4), 6}, {"an elder term, longer", 7, 2, cmds(7, 3, 3, 3), 6, cmds(5, 2, 2, 4), 6}, {"the same term, shorter", 6, 2, cmds(6, 4), 6, cmds(5, 2, 2, 4), 6}, {"the same term, as long", 6, 2, cmds(6, 4, 4), 6, append(cmds(5, 2), cmds(6, 4, 4)...), 6},
		{"it fails above Last", 9, 4, cmds(9, 5), 6, cmds(5, 2, 2, 4), 6}, {"it fails by a term", 7, 3, cmds(7, 5), 6, cmds(5, 2, 2, 4), 6}, {"it fails below Base", 3, 2, cmds(3, 2), 6, cmds(5, 2, 2, 4), 6},
	}
	for _, x := range cases {
		for _, role := range []int{api.Follower, api.Candidate} {
			c := mine(role)
			c.Commit, c.Match = x.commit, [10]int{}
			m := to(api.MsgLend, func(m *api.Msg) {
				m.Index, m.LogTerm, m.Entries, m.Commit, m.Safe, m.Yes, m.Snap, m.Conf = x.index, x.term, x.es, 99, 99, true, "their", alone(one())
			})
			step{x.name, c, m, func(c *api.Core) { c.Log.Entries, c.Commit = x.want, x.after }, nil}.check(t)
			// A later Term comes along.
			m.Term = 6
			step{x.name + ", of a later Term", c, m, func(c *api.Core) {
				c.Log.Entries, c.Commit, c.Term, c.Vote, c.Role = x.want, x.after, 6, 0, api.Follower
			}, nil}.check(t)
		}
		m := to(api.MsgLend, func(m *api.Msg) { m.Index, m.LogTerm, m.Entries = x.index, x.term, x.es })
		step{x.name + ", a Leader", mine(api.Leader), m, nil, nil}.check(t)
	}
}

// A Candidate that is lent entries goes on as what it is, with the configuration that they set.
func TestStepLendToACandidate(t *testing.T) {
	c := mine(api.Candidate)
	c, _ = core.Step(c, to(api.MsgLend, func(m *api.Msg) { m.Index, m.LogTerm, m.Entries = 8, 4, []api.Entry{set(4, alone(one()))} }))
	if c.Role != api.Candidate || len(c.Log.Entries) != 4 {
		t.Fatalf("%+v", c)
	}
	if c, _ = core.Step(c, to(api.MsgVote, func(m *api.Msg) { m.Yes = true })); c.Role != api.Leader || c.Commit != 10 {
		t.Errorf("%+v", c)
	}
}

// MsgAppend

func TestStepAppendFails(t *testing.T) {
	cases := []struct {
		name  string
		index int
		term  int
		es    []api.Entry
		want  int // the Index of the answer
	}{
		{"above Last", 10, 4, cmds(10, 5), 8}, {"just above Last", 9, 4, nil, 8}, {"just above Last, of no term", 9, 0, nil, 8}, {"far above Last", top, 4, cmds(9, 5), 8},
		{"at Last", 8, 3, cmds(8, 5), 7}, {"at Last, of a later term", 8, 5, nil, 7}, {"at Last, of no term", 8, 0, nil, 7},
		{"below Last", 7, 1, cmds(7, 4), 6}, {"below Last, of a later term", 6, 4, nil, 5}, {"below Last, as far as there is", 6, 3, cmds(6, 4, 4), 5},
		{"at Base", 5, 3, cmds(5, 5), 4}, {"at Base, of no term", 5, 0, cmds(5, 2, 2, 4), 4}, {"it ends below Base", 3, 1, cmds(3, 2), 2}, {"it ends below Base, at 1", 1, 1, nil, 0}, {"it ends below Base, at 0", 0, 0, cmds(0, 1, 1, 1, 2), 0},
	}
	for _, x := range cases {
		for _, role := range []int{api.Follower, api.Candidate} {
			c := mine(role)
			c.Lead, c.Wait = 3, 11
			m := to(api.MsgAppend, func(m *api.Msg) { m.Index, m.LogTerm, m.Entries, m.Commit, m.Safe = x.index, x.term, x.es, 8, 8 })
			step{x.name, c, m, heeds, []api.Msg{answer(api.MsgAck, x.want, false)}}.check(t)
		}
	}
	empty := core.New(1, alone(three()))
	empty.Term = 5
	for _, x := range [][3]int{{1, 0, 0}, {1, 1, 0}, {9, 4, 0}, {0, 1, 0}} {
		m := to(api.MsgAppend, func(m *api.Msg) { m.Index, m.LogTerm = x[0], x[1] })
		step{"an empty log", empty, m, heeds, []api.Msg{answer(api.MsgAck, x[2], false)}}.check(t)
	}
}

func TestStepAppend(t *testing.T) {
	cases := []struct {
		name   string
		index  int
		term   int
		es     []api.Entry
		commit int // of the message; that of the core is 6
		want   []api.Entry
		last   int
		after  int
	}{
		{"behind Last", 8, 4, cmds(8, 5), 6, cmds(5, 2, 2, 4, 5), 9, 6}, {"behind Last, several", 8, 4, cmds(8, 4, 5, 5), 0, cmds(5, 2, 2, 4, 4, 5, 5), 11, 6}, {"nothing, at Last", 8, 4, nil, 6, cmds(5, 2, 2, 4), 8, 6},
		{"nothing, within", 7, 2, nil, 7, cmds(5, 2, 2, 4), 7, 7}, {"what is there", 5, 2, cmds(5, 2, 2), 6, cmds(5, 2, 2, 4), 7, 6}, {"what is there and more", 6, 2, cmds(6, 2, 4, 5), 6, cmds(5, 2, 2, 4, 5), 9, 6},
		{"another one", 7, 2, cmds(7, 5), 6, cmds(5, 2, 2, 5), 8, 6}, {"another one, and it is shorter", 6, 2, cmds(6, 5), 6, cmds(5, 2, 5), 7, 6}, {"another one, of an elder term", 7, 2, cmds(7, 3), 6, cmds(5, 2, 2, 3), 8, 6}, {"from below Base", 3, 1, cmds(3, 1, 2, 2, 5), 6, cmds(5, 2, 5), 7, 6}, {"up to Base", 3, 1, cmds(3, 1, 2), 8, cmds(5, 2, 2, 4), 5, 6},
		{"Commit below last", 8, 4, cmds(8, 5, 5), 9, cmds(5, 2, 2, 4, 5, 5), 10, 9}, {"Commit at last", 8, 4, cmds(8, 5, 5), 10, cmds(5, 2, 2, 4, 5, 5), 10, 10}, {"Commit above last", 8, 4, cmds(8, 5, 5), 11, cmds(5, 2, 2, 4, 5, 5), 10, 10}, {"Commit far above last", 8, 4, nil, top, cmds(5, 2, 2, 4), 8, 8},
		{"Commit above last, which is below Last", 6, 2, cmds(6, 2), 8, cmds(5, 2, 2, 4), 7, 7}, {"Commit below the core's", 8, 4, cmds(8, 5), 5, cmds(5, 2, 2, 4, 5), 9, 6}, {"last below the core's Commit", 5, 2, nil, 8, cmds(5, 2, 2, 4), 5, 6}, {"Commit by one", 8, 4, nil, 7, cmds(5, 2, 2, 4), 8, 7},
		{"what is committed goes", 5, 2, cmds(5, 5), 5, cmds(5, 5), 6, 6},
	}
	for _, x := range cases {
		for _, safe := range []int{0, 4, 5, 6, 99} {
			for _, role := range []int{api.Follower, api.Candidate} {
				c := mine(role)
				c.Lead, c.Wait, c.Match = 3, 11, [10]int{}
				m := to(api.MsgAppend, func(m *api.Msg) {
					m.Index, m.LogTerm, m.Entries, m.Commit, m.Safe, m.Snap, m.Conf = x.index, x.term, x.es, x.commit, safe, "their", alone(one())
				})
				step{x.name, c, m, func(c *api.Core) {
					heeds(c)
					c.Log.Entries, c.Commit, c.Safe = x.want, x.after, max(5, safe)
				}, []api.Msg{answer(api.MsgAck, x.last, true)}}.check(t)
			}
		}
		m := to(api.MsgAppend, func(m *api.Msg) { m.Index, m.LogTerm, m.Entries, m.Commit, m.Safe = x.index, x.term, x.es, x.commit, 9 })
		step{x.name + ", a Leader", mine(api.Leader), m, nil, nil}.check(t)
	}
	// A log that ends below Commit takes that along.
	c := mine(api.Follower)
	c.Commit, c.Match = 8, [10]int{}
	step{"what is committed goes", c, to(api.MsgAppend, func(m *api.Msg) { m.Index, m.LogTerm, m.Entries = 5, 2, cmds(5, 5, 5) }),
		func(c *api.Core) { heeds(c); c.Log.Entries, c.Commit = cmds(5, 5, 5), 7 }, []api.Msg{answer(api.MsgAck, 7, true)}}.check(t)
}

// MsgSnap

func TestStepSnap(t *testing.T) {
	other := alone(one())
	fresh := func(index, term int) api.Log { return api.Log{Base: index, BaseTerm: term, Conf: other} }
	cases := []struct {
		name  string
		index int
		term  int
		want  api.Log // Base 0: the log stays
		last  int     // the Index of the answer
	}{
		{"below Base", 3, 1, api.Log{}, 6}, {"at 0", 0, 0, api.Log{}, 6}, {"at Base", 5, 2, api.Log{}, 6}, {"at Commit", 6, 2, api.Log{}, 6}, {"at Commit, of another term", 6, 4, api.Log{}, 6},
		{"behind Commit, there", 7, 2, api.Log{Base: 7, BaseTerm: 2, Conf: other, Entries: cmds(7, 4)}, 7}, {"at Last, there", 8, 4, fresh(8, 4), 8},
		{"behind Commit, of another term", 7, 3, fresh(7, 3), 7}, {"behind Commit, of no term", 7, 0, fresh(7, 0), 7}, {"at Last, of another term", 8, 5, fresh(8, 5), 8}, {"at Last, of an elder term", 8, 2, fresh(8, 2), 8},
		{"behind Last", 9, 5, fresh(9, 5), 9}, {"behind Last, of its term", 9, 4, fresh(9, 4), 9}, {"behind Last, of no term", 9, 0, fresh(9, 0), 9}, {"far behind Last", top, 5, fresh(top, 5), top},
	}
	for _, x := range cases {
		for _, safe := range []int{0, 4, 5, 6, 99} {
			for _, role := range []int{api.Follower, api.Candidate} {
				c := mine(role)
				c.Lead, c.Wait = 3, 11
				m := to(api.MsgSnap, func(m *api.Msg) {
					m.Index, m.LogTerm, m.Snap, m.Conf, m.Safe, m.Commit, m.Entries = x.index, x.term, "their", other, safe, 99, cmds(x.index, 5)
				})
				step{x.name, c, m, func(c *api.Core) {
					heeds(c)
					c.Safe = max(5, safe)
					if x.want.Base != 0 {
						c.Log, c.Snap, c.Commit = x.want, "their", x.index
					}
				}, []api.Msg{answer(api.MsgAck, x.last, true)}}.check(t)
			}
		}
		m := to(api.MsgSnap, func(m *api.Msg) { m.Index, m.LogTerm, m.Snap, m.Conf, m.Safe = x.index, x.term, "their", other, 9 })
		step{x.name + ", a Leader", mine(api.Leader), m, nil, nil}.check(t)
	}
	// Configurations that follow the snapshot stay in force.
	c := mine(api.Follower)
	c.Log.Entries[2] = set(4, alone(three()))
	got, _ := core.Step(c, to(api.MsgSnap, func(m *api.Msg) { m.Index, m.LogTerm, m.Conf = 7, 2, other }))
	if got.Log.Conf != other || len(got.Log.Entries) != 1 || got.Log.Entries[0] != c.Log.Entries[2] {
		t.Errorf("%+v", got)
	}
	// Two configurations may come, too.
	c = mine(api.Follower)
	step{"two configurations", c, to(api.MsgSnap, func(m *api.Msg) { m.Index, m.LogTerm, m.Conf = 9, 5, both(three(), one()) }),
		func(c *api.Core) {
			heeds(c)
			c.Log, c.Snap, c.Commit = api.Log{Base: 9, BaseTerm: 5, Conf: both(three(), one())}, "", 9
		}, []api.Msg{answer(api.MsgAck, 9, true)}}.check(t)
}

// MsgAck

// ahead gives the Leader 1 with the entries 6 to 19, of which 6 to 8 are of an elder term and up to 9 are committed.
func ahead() api.Core {
	c := leader(1, 5, alone(three()), 5, 2, 2, 4, 4, 5, 5, 5, 5, 5, 5, 5, 5, 5, 5, 5)
	c.Commit, c.Safe, c.Snap, c.Heard, c.Wait = 9, 8, "own", of(4), 3
	c.Match[2], c.Match[3], c.Match[4] = 8, 9, 7
	c.Next[2], c.Next[3], c.Next[4] = 12, 10, 99
	return c
}

func TestStepAckYes(t *testing.T) {
	cases := []struct {
		name   string
		from   int
		index  int
		match  int
		commit int
		safe   int
	}{
		{"of a voter", 2, 12, 12, 12, 12}, {"of a voter, all", 2, 19, 19, 19, 19}, {"of a voter, above Last", 2, 20, 19, 19, 19}, {"of a voter, far above Last", 2, top, 19, 19, 19},
		{"of a voter, by one", 2, 9, 9, 9, 9}, {"of a voter, by none", 2, 8, 8, 9, 8}, {"of a voter, less", 2, 7, 8, 9, 8}, {"of a voter, nothing", 2, 0, 8, 9, 8},
		{"of the witness", 3, 14, 14, 14, 8}, {"of the witness, less", 3, 2, 9, 9, 8}, {"of the learner", 4, 14, 14, 9, 8}, {"of the learner, less", 4, 6, 7, 9, 8},
		{"of a stranger", 9, 14, 14, 9, 8}, {"of a stranger, all", 9, 19, 19, 9, 8}, {"of a stranger, nothing", 9, 0, 0, 9, 8}, {"of a stranger, at Base", 7, 5, 5, 9, 8}, {"of a stranger, below Base", 7, 4, 4, 9, 8},
	}
	for _, x := range cases {
		want := with(ahead(), func(c *api.Core) {
			c.Heard, c.Match[x.from], c.Next[x.from], c.Commit, c.Safe = of(4)|of(x.from), x.match, x.match+1, x.commit, x.safe
		})
		var wantOut []api.Msg
		if x.match < 5 {
			wantOut = append(wantOut, sends(want, x.from))
		} else if x.match < 19 {
			wantOut = append(wantOut, appends(want, x.from, x.match+1, min(x.match+8, 19)))
		}
		got, out := core.Step(ahead(), api.Msg{Kind: api.MsgAck, From: x.from, To: 1, Term: 5, Index: x.index, Yes: true, Commit: 99, Safe: 99})
		expect(t, x.name, got, out, want, wantOut...)
	}
}

func TestStepAckNo(t *testing.T) {
	cases := []struct {
		name  string
		from  int
		index int
		next  int
	}{
		{"of a voter", 2, 10, 11}, {"of a voter, just above what it had", 2, 9, 10}, {"of a voter, what it had", 2, 8, 9}, {"of a voter, less than it had", 2, 7, 9}, {"of a voter, nothing", 2, 0, 9},
		{"of a voter, Last", 2, 19, 20}, {"of a voter, above Last", 2, 20, 20}, {"of a voter, far above Last", 2, top, 20}, {"of a voter, just below Last", 2, 18, 19},
		{"of the witness", 3, 9, 10}, {"of the learner", 4, 6, 8}, {"of the learner, more", 4, 11, 12}, {"of a stranger", 9, 11, 12}, {"of a stranger, nothing", 9, 0, 1}, {"of a stranger, below Base", 9, 4, 5}, {"of a stranger, at Base", 9, 5, 6},
	}
	for _, x := range cases {
		want := with(ahead(), func(c *api.Core) { c.Heard, c.Next[x.from] = of(4)|of(x.from), x.next })
		wantOut := appends(want, x.from, x.next, min(x.next+7, 19))
		if x.next <= 5 {
			wantOut = sends(want, x.from)
		}
		got, out := core.Step(ahead(), api.Msg{Kind: api.MsgAck, From: x.from, To: 1, Term: 5, Index: x.index, Commit: 99, Safe: 99})
		expect(t, x.name, got, out, want, wantOut)
	}
	// Nothing is counted by a no, though by what is known all could be committed.
	c := ahead()
	c.Match[2] = 19
	if got, _ := core.Step(c, api.Msg{Kind: api.MsgAck, From: 2, To: 1, Term: 5}); got.Commit != 9 || got.Safe != 8 {
		t.Errorf("%+v", got)
	}
}

func TestStepAckToNoLeader(t *testing.T) {
	for _, role := range []int{api.Follower, api.Candidate} {
		for _, yes := range []bool{false, true} {
			step{"an ack", mine(role), to(api.MsgAck, func(m *api.Msg) { m.Index, m.Yes = 7, yes }), nil, nil}.check(t)
		}
	}
}

// Who still lacks entries is sent them, also when the count has appended one.
func TestStepAckSendsWhatTheCountAppends(t *testing.T) {
	c := leader(1, 5, alone(three()), 5, 2, 5)
	c.Log.Entries[0] = set(5, both(three(), three()))
	got, out := core.Step(c, acks(2, 5, 6))
	want := with(c, func(c *api.Core) {
		c.Heard, c.Match[1], c.Match[2], c.Next[2], c.Commit, c.Safe = of(2), 7, 6, 7, 6, 6
		c.Log.Entries = append(c.Log.Entries, set(5, alone(three())))
	})
	expect(t, "the end of a change", got, out, want, appends(want, 2, 7, 7))
}

// The messages that have no effect

func TestStepWithoutEffect(t *testing.T) {
	entry := func(e api.Entry) func(m *api.Msg) {
		return func(m *api.Msg) { m.Index, m.LogTerm, m.Entries = 8, 4, []api.Entry{e} }
	}
	entriesOf := map[string]func(m *api.Msg){
		"an entry of a later term":                           entry(cmd(9, 6)),
		"an entry of a later term, the last of several":      func(m *api.Msg) { m.Index, m.LogTerm, m.Entries = 8, 4, cmds(8, 5, 5, 6) },
		"an entry of a later term, up to Base":               func(m *api.Msg) { m.Index, m.LogTerm, m.Entries = 3, 1, cmds(3, 6, 2) },
		"an entry of a later term, where it fails":           func(m *api.Msg) { m.Index, m.LogTerm, m.Entries = 8, 3, cmds(8, 6) },
		"two configurations of which one is not set":         entry(set(5, wrong()[2])),
		"a configuration, up to Base":                        func(m *api.Msg) { m.Index, m.LogTerm, m.Entries = 3, 1, []api.Entry{set(1, wrong()[1]), cmd(5, 2)} },
		"a configuration where it fails":                     func(m *api.Msg) { m.Index, m.LogTerm, m.Entries = 99, 5, []api.Entry{set(5, wrong()[1])} },
		"a configuration, the last of several":               func(m *api.Msg) { m.Index, m.LogTerm, m.Entries = 8, 4, append(cmds(8, 5, 5), set(5, wrong()[1])) },
		"a configuration that is there with one that may be": func(m *api.Msg) { m.Index, m.LogTerm, m.Entries = 7, 2, []api.Entry{set(4, wrong()[1])} },
		"terms that fall":                                    entry(cmd(9, 3)),
		"terms that fall, among the new ones":                func(m *api.Msg) { m.Index, m.LogTerm, m.Entries = 8, 4, cmds(8, 5, 4) },
		"terms below BaseTerm":                               func(m *api.Msg) { m.Index, m.LogTerm, m.Entries = 5, 2, cmds(5, 1, 5) },
		"a term of 0":                                        entry(cmd(9, 0)),
		"a term below 0":                                     entry(cmd(9, -1)),
	}
	for _, j := range wrong() {
		entriesOf["a configuration"] = entry(set(5, j))
		for name, fill := range entriesOf {
			for _, kind := range []int{api.MsgAppend, api.MsgLend} {
				for _, role := range roles() {
					fill := func(m *api.Msg) { fill(m); m.Commit, m.Safe = 9, 9 }
					c := mine(role)
					c.Lead, c.Wait = 3, 11
					step{name, c, to(kind, fill), nil, nil}.check(t)
				}
			}
		}
		snap := func(m *api.Msg) { m.Index, m.LogTerm, m.Safe, m.Snap, m.Conf = 9, 4, 9, "their", j }
		step{"the Conf of a MsgSnap", mine(api.Follower), to(api.MsgSnap, snap), nil, nil}.check(t)
		snap = func(m *api.Msg) { m.Index, m.LogTerm, m.Safe, m.Conf = 6, 2, 9, j }
		step{"the Conf of a MsgSnap up to Commit", mine(api.Candidate), to(api.MsgSnap, snap), nil, nil}.check(t)
	}
	for _, term := range []int{-1, -top, math.MinInt, 6, top, math.MaxInt} {
		for _, index := range []int{6, 9} {
			snap := func(m *api.Msg) { m.Index, m.LogTerm, m.Safe, m.Conf = index, term, 9, alone(three()) }
			step{"the LogTerm of a MsgSnap", mine(api.Candidate), to(api.MsgSnap, snap), nil, nil}.check(t)
		}
	}
}

// But the change of Term comes ahead of that, and an entry may have the Term that comes.
func TestStepWithoutEffectButTerm(t *testing.T) {
	later := func(fill func(m *api.Msg)) func(m *api.Msg) {
		return func(m *api.Msg) { m.Term = 6; fill(m) }
	}
	term := func(c *api.Core) { c.Term, c.Vote, c.Lead, c.Role, c.Wait = 6, 0, 0, api.Follower, 0 }
	for _, kind := range []int{api.MsgAppend, api.MsgLend} {
		step{"an entry of a later term", mine(api.Leader), to(kind, later(func(m *api.Msg) { m.Index, m.LogTerm, m.Entries = 8, 4, cmds(8, 7) })), term, nil}.check(t)
		step{"a configuration", mine(api.Leader), to(kind, later(func(m *api.Msg) { m.Index, m.LogTerm, m.Entries = 8, 4, []api.Entry{set(5, wrong()[1])} })), term, nil}.check(t)
		step{"a log", mine(api.Leader), to(kind, later(func(m *api.Msg) { m.Index, m.LogTerm, m.Entries = 8, 4, cmds(8, 3) })), term, nil}.check(t)
	}
	step{"a Conf", mine(api.Leader), to(api.MsgSnap, later(func(m *api.Msg) { m.Index = 9 })), term, nil}.check(t)
	step{"a LogTerm", mine(api.Leader), to(api.MsgSnap, later(func(m *api.Msg) { m.Index, m.LogTerm, m.Conf = 9, 7, alone(three()) })), term, nil}.check(t)
	got, out := core.Step(mine(api.Leader), to(api.MsgAppend, later(func(m *api.Msg) { m.Index, m.LogTerm, m.Entries = 8, 4, cmds(8, 6) })))
	if len(got.Log.Entries) != 4 || got.Lead != 2 || len(out) != 1 || !out[0].Yes {
		t.Errorf("an entry of the Term that comes: %+v %+v", got, out)
	}
	got, out = core.Step(mine(api.Leader), to(api.MsgSnap, later(func(m *api.Msg) { m.Index, m.LogTerm, m.Conf = 9, 6, alone(three()) })))
	if got.Log.Base != 9 || got.Lead != 2 || len(out) != 1 || !out[0].Yes {
		t.Errorf("a LogTerm of the Term that comes: %+v %+v", got, out)
	}
}

// What is no fault: a configuration that no EntryConf has, a kind that no entry has, entries of no data.
func TestStepTakesOtherEntries(t *testing.T) {
	for _, e := range []api.Entry{{Term: 5, Kind: api.EntryCmd, Conf: wrong()[1]}, {Term: 5, Conf: wrong()[1]}, {Term: 5, Kind: 3, Conf: wrong()[1]}, {Term: 5, Kind: -1}, set(5, both(three(), one()))} {
		for _, kind := range []int{api.MsgAppend, api.MsgLend} {
			got, _ := core.Step(mine(api.Follower), to(kind, func(m *api.Msg) { m.Index, m.LogTerm, m.Entries = 8, 4, []api.Entry{e} }))
			if len(got.Log.Entries) != 4 || got.Log.Entries[3] != e {
				t.Errorf("%+v: %+v", e, got)
			}
		}
	}
}

// A log may have MaxLog entries, and no more.
func TestStepMaxLog(t *testing.T) {
	for _, kind := range []int{api.MsgAppend, api.MsgLend} {
		for had, comes := range map[int][]int{4095: {0, 1, 2}, 4096: {0, 1}, 4090: {6, 7}, 4097: {0}} {
			c := follower(1, 5, alone(three()), 5, 2)
			for len(c.Log.Entries) < had {
				c.Log.Entries = append(c.Log.Entries, cmd(6+len(c.Log.Entries), 3))
			}
			for _, n := range comes {
				var es []api.Entry
				for len(es) < n {
					es = append(es, cmd(6+had+len(es), 5))
				}
				m := to(kind, func(m *api.Msg) { m.Index, m.LogTerm, m.Entries = 5+had, 3, es })
				var out []api.Msg
				change := func(c *api.Core) {}
				if had+n <= 4096 && kind == api.MsgAppend {
					out = append(out, answer(api.MsgAck, 5+had+n, true))
				}
				if had+n <= 4096 {
					change = func(c *api.Core) {
						if kind == api.MsgAppend {
							heeds(c)
						}
						c.Log.Entries = append(c.Log.Entries, es...)
					}
				}
				step{"a long log", c, m, change, out}.check(t)
			}
		}
	}
	// A log that is longer already takes nothing, but tells that a MsgAppend fails.
	long := follower(1, 5, alone(three()), 5, 2)
	long.Log.Entries = make5000()
	step{"too long", long, to(api.MsgAppend, func(m *api.Msg) { m.Index, m.LogTerm = 5005, 3 }), nil, nil}.check(t)
	step{"too long, and it fails", long, to(api.MsgAppend, func(m *api.Msg) { m.Index, m.LogTerm = 5005, 4 }), heeds, []api.Msg{answer(api.MsgAck, 5004, false)}}.check(t)
	// A message may have more entries than that, if those up to Base fall away.
	c := follower(1, 5, alone(three()), 5, 2, 3)
	var es []api.Entry
	for no := 1; no <= 4102; no++ {
		es = append(es, cmd(no, 3))
	}
	for n, fits := range map[int]bool{4100: true, 4101: true, 4102: false} {
		got, _ := core.Step(c, to(api.MsgAppend, func(m *api.Msg) { m.Entries = es[:n] }))
		if fits != (len(got.Log.Entries) == n-5) || !fits && !sameCore(got, c) {
			t.Errorf("%d entries from the first one on: %d", n, len(got.Log.Entries))
		}
	}
}

// A Leader that fell keeps its Match, also where a later one cuts its log: it goes on, though it is not valid then.
func TestStepBehindACut(t *testing.T) {
	c := leader(1, 5, alone(three()), 0, 0, 1, 5, 5, 5)
	c.Commit = 1
	c, out := core.Step(c, to(api.MsgAppend, func(m *api.Msg) { m.Term, m.Index, m.LogTerm, m.Entries, m.Commit = 6, 1, 1, cmds(1, 6), 1 }))
	if c.Role != api.Follower || len(c.Log.Entries) != 2 || c.Match[1] != 4 || len(out) != 1 || core.May(c) {
		t.Fatalf("%+v %+v", c, out)
	}
	c, out = core.Step(c, to(api.MsgAppend, func(m *api.Msg) { m.Term, m.Index, m.LogTerm, m.Entries, m.Commit = 6, 2, 6, cmds(2, 6), 3 }))
	if c.Commit != 3 || len(out) != 1 || !out[0].Yes || out[0].Index != 3 {
		t.Fatalf("%+v %+v", c, out)
	}
	for range core.Patience(1) {
		c, out = core.Tick(c)
	}
	if c.Role != api.Candidate || c.Term != 7 || len(out) != 2 {
		t.Fatalf("%+v %+v", c, out)
	}
	if c, _ = core.Step(c, to(api.MsgVote, func(m *api.Msg) { m.Term, m.Yes = 7, true })); c.Role != api.Leader || c.Match[1] != 4 || !core.May(c) {
		t.Fatalf("%+v", c)
	}
}
