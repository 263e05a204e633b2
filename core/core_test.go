package core_test

import (
	"math"
	"testing"

	"antipode/api"
	"antipode/core"
)

// three is the configuration from which most cases start.
func three() api.Config {
	return api.Config{Voters: of(1, 2), Witnesses: of(3), Learners: of(4), Elect: 2, Commit: 2}
}

// one is a configuration in which the node 1 does all by itself.
func one() api.Config {
	return api.Config{Voters: of(1), Learners: of(2), Elect: 1, Commit: 1}
}

// wrong lists joints that are not valid.
func wrong() []api.Joint {
	bad := api.Config{Voters: of(1, 2), Elect: 1, Commit: 2}
	return []api.Joint{{}, {Old: bad}, {Old: three(), New: three()}, {Old: three(), Two: true}, {Old: three(), New: bad, Two: true}, {Old: bad, New: three(), Two: true}}
}

// alone gives the joint of one configuration.
func alone(c api.Config) api.Joint { return api.Joint{Old: c} }

// both gives the joint of two.
func both(a, b api.Config) api.Joint { return api.Joint{Old: a, New: b, Two: true} }

// follower gives a core that follows nobody, with commands of these terms behind base.
func follower(id, term int, j api.Joint, base, baseTerm int, terms ...int) api.Core {
	return api.Core{ID: id, Term: term, Commit: base, Log: api.Log{Base: base, BaseTerm: baseTerm, Conf: j, Entries: cmds(base, terms...)}}
}

// leader gives a Leader that has heard of nobody yet.
func leader(id, term int, j api.Joint, base, baseTerm int, terms ...int) api.Core {
	c := follower(id, term, j, base, baseTerm, terms...)
	c.Role, c.Lead, c.Vote, c.Votes = api.Leader, id, id, of(id)
	c.Match[id] = base + len(terms)
	for n := range c.Next {
		c.Next[n] = base + len(terms) + 1
	}
	return c
}

// with gives c with a change.
func with(c api.Core, change func(c *api.Core)) api.Core {
	c.Log.Entries = append([]api.Entry(nil), c.Log.Entries...)
	change(&c)
	return c
}

// expect fails unless a call told that core and those messages.
func expect(t *testing.T, name string, got api.Core, out []api.Msg, want api.Core, wantOut ...api.Msg) {
	t.Helper()
	if !sameCore(got, want) {
		t.Errorf("%s:\n%+v\nnot\n%+v", name, got, want)
	}
	if !sameMsgs(out, wantOut) {
		t.Errorf("%s:\n%+v\nnot\n%+v", name, out, wantOut)
	}
}

// P13.1

func TestNew(t *testing.T) {
	for _, id := range []int{1, 2, 9, 0, 10, -1, math.MaxInt, math.MinInt} {
		for _, j := range append(joints(), wrong()...) {
			if c := core.New(id, j); !sameCore(c, api.Core{ID: id, Log: api.Log{Conf: j}}) {
				t.Errorf("%d %+v: %+v", id, j, c)
			}
		}
	}
	for id := 1; id <= 9; id++ {
		for _, j := range joints() {
			if !core.May(core.New(id, j)) {
				t.Errorf("%d %+v is not valid", id, j)
			}
		}
	}
}

func TestPatience(t *testing.T) {
	for id, want := range map[int]int{1: 16, 2: 20, 3: 24, 4: 28, 5: 32, 6: 36, 7: 40, 8: 44, 9: 48, 0: 12, 10: 52, -3: 0, -4: -4, 1000: 4012} {
		if got := core.Patience(id); got != want {
			t.Errorf("%d: %d", id, got)
		}
	}
}

// full gives a core none of whose fields is zero.
func full() api.Core {
	c := follower(2, 7, alone(three()), 5, 2, 2, 3, 6)
	c.Role, c.Vote, c.Lead, c.Wait, c.Commit, c.Safe, c.Snap = api.Candidate, 3, 1, 4, 7, 6, "snap"
	c.Votes, c.Heard = of(2, 3), of(1)
	for n := range c.Next {
		c.Next[n], c.Match[n] = 9, 8
	}
	return c
}

func TestRestart(t *testing.T) {
	for role := range 3 {
		c := full()
		c.Role = role
		want := api.Core{ID: 2, Term: 7, Vote: 3, Commit: 5, Log: c.Log, Snap: "snap"}
		if got := core.Restart(c); !sameCore(got, want) {
			t.Errorf("%+v", got)
		}
	}
	if got := core.Restart(core.New(3, alone(three()))); !sameCore(got, core.New(3, alone(three()))) {
		t.Errorf("%+v", got)
	}
}

func TestCompact(t *testing.T) {
	c := full() // the entries 6 to 8, of which up to 7 are committed
	c.Log.Entries[1] = set(3, alone(one()))
	for to, want := range map[int]api.Log{
		5: c.Log,
		6: {Base: 6, BaseTerm: 2, Conf: alone(three()), Entries: c.Log.Entries[1:]},
		7: {Base: 7, BaseTerm: 3, Conf: alone(one()), Entries: c.Log.Entries[2:]},
	} {
		for _, snap := range []string{"", "new"} {
			got, e := core.Compact(c, to, snap)
			if !sameCore(got, with(c, func(c *api.Core) { c.Log, c.Snap = want, snap })) || e != api.OK {
				t.Errorf("to %d: %+v %d", to, got, e)
			}
		}
	}
	for _, to := range []int{4, 8, 9, 0, -1, math.MinInt, math.MaxInt} {
		if got, e := core.Compact(c, to, "new"); !sameCore(got, api.Core{}) || e != api.ErrArg {
			t.Errorf("to %d: %+v %d", to, got, e)
		}
	}
	c.Commit = 5
	if got, e := core.Compact(c, 6, ""); !sameCore(got, api.Core{}) || e != api.ErrArg {
		t.Errorf("nothing is committed: %+v %d", got, e)
	}
}

// Valid cores

func TestMayEnds(t *testing.T) {
	type field struct {
		name        string
		of          func(c *api.Core) *int
		least, most int
	}
	fields := []field{
		{"ID", func(c *api.Core) *int { return &c.ID }, 1, 9},
		{"Role", func(c *api.Core) *int { return &c.Role }, 0, 2},
		{"Term", func(c *api.Core) *int { return &c.Term }, 6, top},
		{"Vote", func(c *api.Core) *int { return &c.Vote }, 0, 9},
		{"Lead", func(c *api.Core) *int { return &c.Lead }, 0, 9},
		{"Wait", func(c *api.Core) *int { return &c.Wait }, 0, top},
		{"Commit", func(c *api.Core) *int { return &c.Commit }, 5, 8},
		{"Safe", func(c *api.Core) *int { return &c.Safe }, 0, top},
	}
	for n := range 10 {
		fields = append(fields,
			field{"a Next", func(c *api.Core) *int { return &c.Next[n] }, 0, 2 * top},
			field{"a Match", func(c *api.Core) *int { return &c.Match[n] }, 0, 8})
	}
	for _, f := range fields {
		for _, x := range []int{f.least, f.least + 1, f.most - 1, f.most} {
			c := full()
			*f.of(&c) = x
			if !core.May(c) {
				t.Errorf("%s may be %d", f.name, x)
			}
		}
		for _, x := range []int{f.least - 1, f.most + 1, -1, -top, 4 * top, math.MinInt, math.MaxInt} {
			c := full()
			*f.of(&c) = x
			if core.May(c) {
				t.Errorf("%s may not be %d", f.name, x)
			}
		}
	}
}

func TestMayOfLogs(t *testing.T) {
	good := map[string]func(c *api.Core){
		"sets of all kinds":                    func(c *api.Core) { c.Votes, c.Heard = 0xffff, 0xffff },
		"no sets":                              func(c *api.Core) { c.Votes, c.Heard, c.Snap = 0, 0, "" },
		"no entries":                           func(c *api.Core) { c.Log.Entries, c.Commit, c.Match, c.Term = nil, 5, [10]int{}, 2 },
		"a configuration":                      func(c *api.Core) { c.Log.Entries[1] = set(3, both(three(), one())) },
		"a configuration that is not in force": func(c *api.Core) { c.Log.Entries[1].Conf = wrong()[1] },
		"an entry of no kind":                  func(c *api.Core) { c.Log.Entries[1] = api.Entry{Term: 3, Kind: 3, Conf: wrong()[1]} },
		"an entry of the kind 0":               func(c *api.Core) { c.Log.Entries[1] = api.Entry{Term: 3} },
		"two configurations at Base":           func(c *api.Core) { c.Log.Conf = both(three(), one()) },
		"all is at its end": func(c *api.Core) {
			c.Log.Base, c.Log.BaseTerm, c.Term, c.Commit, c.Log.Entries = top, top, top, top+1, cmds(top, top)
		},
		"a node that is no member": func(c *api.Core) { c.ID = 8 },
		"a log that is long":       func(c *api.Core) { c.Log.Entries = make5000() },
	}
	for name, change := range good {
		if c := with(full(), change); !core.May(c) {
			t.Errorf("%s: %+v is valid", name, c)
		}
	}
	bad := map[string]func(c *api.Core){
		"a Base below 0":                  func(c *api.Core) { c.Log.Base, c.Commit, c.Match = -1, 0, [10]int{} },
		"a Base above the end":            func(c *api.Core) { c.Log.Base, c.Commit = top+1, top+1 },
		"a BaseTerm below 0":              func(c *api.Core) { c.Log.BaseTerm = -1 },
		"a BaseTerm that is too late":     func(c *api.Core) { c.Log.BaseTerm = 3 },
		"terms that fall":                 func(c *api.Core) { c.Log.Entries[2].Term = 2 },
		"a term of 0":                     func(c *api.Core) { c.Log.BaseTerm, c.Log.Entries[0].Term = 0, 0 },
		"the term of Last is above Term":  func(c *api.Core) { c.Log.Entries[2].Term = 8 },
		"BaseTerm is above Term":          func(c *api.Core) { c.Log.Entries, c.Commit, c.Match, c.Term = nil, 5, [10]int{}, 1 },
		"no entries, and Commit is above": func(c *api.Core) { c.Log.Entries, c.Match, c.Commit = nil, [10]int{}, 6 },
	}
	for _, j := range wrong() {
		bad["Conf"] = func(c *api.Core) { c.Log.Conf = j }
		bad["the first Conf"] = func(c *api.Core) { c.Log.Entries[0] = set(2, j) }
		bad["the last Conf"] = func(c *api.Core) { c.Log.Entries[2] = set(6, j) }
		bad["a Conf that another one follows"] = func(c *api.Core) { c.Log.Entries[1], c.Log.Entries[2] = set(3, j), set(6, alone(one())) }
		for name, change := range bad {
			if c := with(full(), change); core.May(c) {
				t.Errorf("%s: %+v is not valid", name, c)
			}
		}
	}
	if core.May(api.Core{}) {
		t.Error("the zero core is valid")
	}
}

// make5000 gives more entries than MaxLog: no core is not valid by their number.
func make5000() []api.Entry {
	var es []api.Entry
	for no := 6; no <= 5005; no++ {
		es = append(es, cmd(no, 3))
	}
	return es
}

// P13.2

// appends gives the MsgAppend of the Leader c to n that a Next of next asks for, with entries up to last.
func appends(c api.Core, n, next, last int) api.Msg {
	r := read(c)
	return api.Msg{Kind: api.MsgAppend, From: c.ID, To: n, Term: c.Term, Index: next - 1, LogTerm: max(r.term(next-1), 0), Entries: r.behind(next-1, last-next+1), Commit: c.Commit, Safe: c.Safe}
}

func TestTickOfALeader(t *testing.T) {
	for wait := 0; wait <= 25; wait++ {
		c := leader(1, 3, alone(three()), 5, 2, 2, 3)
		c.Wait, c.Heard, c.Commit, c.Safe = wait, of(2), 6, 5
		got, out := core.Tick(c)
		want := with(c, func(c *api.Core) {
			c.Wait++
			if wait == 9 {
				c.Wait, c.Heard = 0, 0
			}
		})
		var wantOut []api.Msg
		if wait%2 == 1 {
			wantOut = []api.Msg{appends(c, 2, 8, 7), appends(c, 3, 8, 7), appends(c, 4, 8, 7)}
		}
		expect(t, "a Leader ticks", got, out, want, wantOut...)
	}
}

// A Leader that has heard of too few, of those without a vote, or of no voter steps down; what it sends is sent, and what it knows stays.
func TestTickAtSticky(t *testing.T) {
	wide := api.Config{Voters: of(1, 2), Witnesses: of(3, 5, 6), Learners: of(4), Elect: 3, Commit: 3}
	other := api.Config{Voters: of(7, 8), Witnesses: of(3), Elect: 2, Commit: 2}
	cases := []struct {
		name  string
		id    int
		j     api.Joint
		heard api.Set
		stays bool
	}{
		{"one voter of two", 1, alone(three()), of(2), true}, {"the witness", 1, alone(three()), of(3), true}, {"nobody", 1, alone(three()), 0, false},
		{"the learner", 1, alone(three()), of(4), false}, {"strangers", 1, alone(three()), of(5, 6, 7, 8, 9), false}, {"itself", 1, alone(three()), of(1), false},
		{"other bits", 1, alone(three()), 0xfc01, false}, {"all", 1, alone(three()), 0xffff, true},
		{"two witnesses of three", 1, alone(wide), of(3, 5), true}, {"one witness of three", 1, alone(wide), of(3), false},
		{"nobody, and there is nobody", 1, alone(one()), 0, true},
		{"of the old ones only", 1, both(three(), other), of(2), false}, {"of both", 1, both(three(), other), of(3, 7), true}, {"of the new ones only", 1, both(three(), other), of(7, 8), false},
		{"no voter of the new ones", 1, both(three(), other), of(2, 3), false}, {"the two witnesses, without a vote of its own", 9, alone(wide), of(3, 5, 6), false}, {"without a vote of its own", 9, alone(wide), of(1, 3, 5), true},
	}
	for _, x := range cases {
		c := leader(x.id, 3, x.j, 0, 0, 1)
		c.Wait, c.Heard = 9, x.heard
		want := with(c, func(c *api.Core) {
			c.Wait, c.Heard = 0, 0
			if !x.stays {
				c.Role, c.Lead, c.Heard = 0, 0, x.heard
			}
		})
		var wantOut []api.Msg
		for _, n := range read(c).members() {
			if n != x.id {
				wantOut = append(wantOut, appends(c, n, 2, 1))
			}
		}
		got, out := core.Tick(c)
		expect(t, "heard of "+x.name, got, out, want, wantOut...)
		// Beside Sticky nobody is counted.
		for _, wait := range []int{8, 10, 11, 19} {
			c.Wait = wait
			if got, _ := core.Tick(c); !sameCore(got, with(c, func(c *api.Core) { c.Wait++ })) {
				t.Errorf("heard of %s, at %d: %+v", x.name, wait, got)
			}
		}
	}
}

// asks gives the MsgAsk of the Candidate c to n.
func asks(c api.Core, n int) api.Msg {
	r := read(c)
	return api.Msg{Kind: api.MsgAsk, From: c.ID, To: n, Term: c.Term, Index: r.last(), LogTerm: r.term(r.last()), Commit: c.Commit}
}

// Voters stand when their patience ends, and no sooner, and ask all others with a vote.
func TestTickStands(t *testing.T) {
	nine := api.Config{Voters: of(1, 2, 3, 4, 5, 6, 7, 8, 9), Elect: 5, Commit: 5}
	cases := []struct {
		id   int
		j    api.Joint
		asks []int // nil: it never stands
	}{
		{1, alone(three()), []int{2, 3}}, {2, alone(three()), []int{1, 3}}, {3, alone(three()), nil}, {4, alone(three()), nil}, {5, alone(three()), nil}, {9, alone(three()), nil},
		{1, both(three(), one()), []int{2, 3}}, {2, both(three(), one()), []int{1, 3}}, {2, alone(one()), nil}, {2, both(one(), one()), nil},
		{7, both(three(), api.Config{Voters: of(7, 8), Witnesses: of(3), Elect: 2, Commit: 2}), []int{1, 2, 3, 8}},
		{9, alone(nine), []int{1, 2, 3, 4, 5, 6, 7, 8}}, {5, alone(nine), []int{1, 2, 3, 4, 6, 7, 8, 9}},
	}
	for _, x := range cases {
		for _, wait := range []int{0, 10 + 4*x.id, 11 + 4*x.id, 12 + 4*x.id, 99, top} {
			for _, role := range []int{api.Follower, api.Candidate} {
				c := follower(x.id, 3, x.j, 5, 2, 2, 3)
				c.Wait, c.Role, c.Vote, c.Lead, c.Votes, c.Heard, c.Commit, c.Safe = wait, role, 9, 8, of(7), of(6), 6, 4
				c.Next[2], c.Match[2] = 4, 5
				want := with(c, func(c *api.Core) { c.Wait++ })
				var wantOut []api.Msg
				if wait+1 >= 12+4*x.id && x.asks != nil {
					want.Term, want.Role, want.Vote, want.Votes, want.Lead, want.Wait = 4, api.Candidate, x.id, of(x.id), 0, 0
					for _, n := range x.asks {
						wantOut = append(wantOut, asks(want, n))
					}
				}
				got, out := core.Tick(c)
				expect(t, "a core that waited", got, out, want, wantOut...)
			}
		}
	}
}

func TestTickAtTheLastTerm(t *testing.T) {
	for term, stands := range map[int]bool{top - 2: true, top - 1: true, top: false} {
		for _, j := range []api.Joint{alone(three()), alone(one())} {
			c := follower(1, term, j, 0, 0, 1)
			c.Wait = 15
			got, out := core.Tick(c)
			if stands != (got.Term == term+1) || stands != (len(out) > 0) || !core.May(got) {
				t.Errorf("at %d: %+v %+v", term, got, out)
			}
			if !stands {
				expect(t, "at the last term", got, out, with(c, func(c *api.Core) { c.Wait = 16 }))
			}
		}
	}
}

// The section 'Examples'.
func TestExample(t *testing.T) {
	j := alone(api.Config{Voters: of(1, 2, 3), Elect: 2, Commit: 2})
	c, other := core.New(1, j), core.New(2, j)
	var out []api.Msg
	for range 15 {
		if c, out = core.Tick(c); len(out) != 0 {
			t.Fatalf("it waits: %+v", out)
		}
	}
	c, out = core.Tick(c)
	if !sameMsgs(out, []api.Msg{{Kind: api.MsgAsk, From: 1, To: 2, Term: 1}, {Kind: api.MsgAsk, From: 1, To: 3, Term: 1}}) {
		t.Fatalf("it asks: %+v", out)
	}
	_, answer := core.Step(other, out[0])
	if !sameMsgs(answer, []api.Msg{{Kind: api.MsgVote, From: 2, To: 1, Term: 1, Yes: true}}) {
		t.Fatalf("it is answered: %+v", answer)
	}
	c, out = core.Step(c, answer[0])
	e := []api.Entry{{Term: 1}}
	if c.Role != api.Leader || !sameMsgs(out, []api.Msg{{Kind: api.MsgAppend, From: 1, To: 2, Term: 1, Entries: e}, {Kind: api.MsgAppend, From: 1, To: 3, Term: 1, Entries: e}}) {
		t.Fatalf("it leads: %+v %+v", c, out)
	}
}

// P13.3

// A voter that elects alone wins by its own tick: its entry, and what was ahead of it, is committed at once.
func TestWinsAlone(t *testing.T) {
	c := follower(1, 3, alone(one()), 5, 2, 2, 3)
	c.Wait, c.Vote, c.Lead, c.Votes, c.Heard, c.Snap, c.Role = 15, 2, 2, of(5), of(6), "snap", api.Candidate
	c.Next, c.Match = [10]int{9: 3}, [10]int{0: 2, 2: 4, 9: 1}
	want := with(c, func(c *api.Core) {
		c.Term, c.Role, c.Vote, c.Votes, c.Lead, c.Wait, c.Heard = 4, api.Leader, 1, of(1), 1, 0, 0
		c.Next, c.Match = [10]int{8, 8, 8, 8, 8, 8, 8, 8, 8, 8}, [10]int{1: 8}
		c.Log.Entries = append(c.Log.Entries, api.Entry{Term: 4})
		c.Commit, c.Safe = 8, 8
	})
	got, out := core.Tick(c)
	expect(t, "a voter alone", got, out, want, appends(want, 2, 8, 8))
}

func TestWinsByVotes(t *testing.T) {
	c := follower(1, 4, alone(three()), 5, 2, 2, 3)
	c.Role, c.Vote, c.Votes, c.Wait, c.Commit, c.Safe, c.Heard = api.Candidate, 1, of(1), 7, 6, 3, of(3)
	c.Match = [10]int{2: 7, 3: 7}
	want := with(c, func(c *api.Core) {
		c.Role, c.Lead, c.Wait, c.Heard, c.Votes = api.Leader, 1, 0, 0, of(1, 3)
		c.Next, c.Match = [10]int{8, 8, 8, 8, 8, 8, 8, 8, 8, 8}, [10]int{1: 8}
		c.Log.Entries = append(c.Log.Entries, api.Entry{Term: 4})
	})
	got, out := core.Step(c, api.Msg{Kind: api.MsgVote, From: 3, To: 1, Term: 4, Yes: true})
	expect(t, "a vote of the witness", got, out, want, appends(want, 2, 8, 8), appends(want, 3, 8, 8), appends(want, 4, 8, 8))
}

// A change that was under way when its leader fell ends with the next one.
func TestWinsAndEndsAChange(t *testing.T) {
	to := api.Config{Voters: of(1), Learners: of(2), Elect: 1, Commit: 1}
	c := follower(1, 4, both(api.Config{Voters: of(1), Elect: 1, Commit: 1}, to), 5, 2)
	c.Wait = 15
	want := with(c, func(c *api.Core) {
		c.Term, c.Role, c.Vote, c.Votes, c.Lead, c.Wait = 5, api.Leader, 1, of(1), 1, 0
		c.Next, c.Match = [10]int{6, 6, 6, 6, 6, 6, 6, 6, 6, 6}, [10]int{1: 7}
		c.Log.Entries = []api.Entry{{Term: 5}, set(5, alone(to))}
		c.Commit, c.Safe = 7, 7
	})
	got, out := core.Tick(c)
	expect(t, "a change ends", got, out, want, appends(want, 2, 6, 7))
}

// One that the change leaves out steps down as soon as the end of the change is committed, but what a winner sends is sent.
func TestWinsAndStepsDown(t *testing.T) {
	to := api.Config{Voters: of(2), Elect: 1, Commit: 1}
	c := follower(1, 4, alone(to), 5, 2, 3)
	c.Role, c.Vote, c.Votes, c.Wait = api.Candidate, 1, of(1), 3
	got, out := core.Step(c, api.Msg{Kind: api.MsgVote, From: 2, To: 1, Term: 4, Yes: true})
	want := with(c, func(c *api.Core) {
		c.Role, c.Votes, c.Wait = api.Follower, of(1, 2), 0
		c.Next, c.Match = [10]int{7, 7, 7, 7, 7, 7, 7, 7, 7, 7}, [10]int{1: 7}
		c.Log.Entries = append(c.Log.Entries, api.Entry{Term: 4})
	})
	expect(t, "one that may not lead", got, out, want, appends(want, 2, 7, 7))
}

// P13.4, by the MsgAck that brings the last that lacks

// acks gives a MsgAck, with Yes true, to the core 1.
func acks(from, term, index int) api.Msg {
	return api.Msg{Kind: api.MsgAck, From: from, To: 1, Term: term, Index: index, Yes: true}
}

func TestCountsCommit(t *testing.T) {
	five := api.Config{Voters: of(1, 2, 5), Witnesses: of(3, 6), Learners: of(4), Elect: 3, Commit: 3}
	few := api.Config{Voters: of(1, 2), Witnesses: of(3), Elect: 3, Commit: 1}
	cases := []struct {
		name   string
		j      api.Joint
		terms  []int // of the entries 1, 2, ..; the core's Term is 3
		match  [10]int
		from   int
		index  int
		commit int // before
		want   int
	}{
		{"by one", alone(three()), []int{3, 3, 3}, [10]int{}, 2, 1, 0, 1},
		{"by one, further on", alone(three()), []int{3, 3, 3}, [10]int{}, 2, 3, 2, 3},
		{"by several", alone(three()), []int{3, 3, 3}, [10]int{}, 2, 3, 0, 3},
		{"by several, of the witness", alone(three()), []int{3, 3, 3}, [10]int{}, 3, 2, 0, 2},
		{"with elder ones", alone(three()), []int{1, 2, 3}, [10]int{}, 3, 3, 1, 3},
		{"not of an elder term", alone(three()), []int{1, 2, 3}, [10]int{}, 2, 2, 1, 1},
		{"not at all: it has nothing", alone(three()), []int{3, 3, 3}, [10]int{}, 2, 0, 0, 0},
		{"not at all: it is committed", alone(three()), []int{3, 3, 3}, [10]int{}, 2, 2, 2, 2},
		{"not at all: less than is committed", alone(three()), []int{3, 3, 3}, [10]int{}, 2, 1, 2, 2},
		{"not at all: the learner", alone(three()), []int{3, 3, 3}, [10]int{}, 4, 3, 0, 0},
		{"not at all: a stranger", alone(three()), []int{3, 3, 3}, [10]int{}, 9, 3, 0, 0},
		{"a third one of five", alone(five), []int{3, 3, 3}, [10]int{2: 2}, 6, 3, 0, 2},
		{"a fourth one of five", alone(five), []int{3, 3, 3}, [10]int{2: 2, 6: 3}, 5, 1, 0, 2},
		{"a second one of five", alone(five), []int{3, 3, 3}, [10]int{4: 3, 9: 3}, 5, 3, 0, 0},
		{"by its own", alone(few), []int{3, 3, 3}, [10]int{}, 2, 0, 0, 3},
		{"in both", both(three(), five), []int{3, 3, 3}, [10]int{2: 3}, 5, 2, 0, 2},
		{"in the old one", both(three(), five), []int{3, 3, 3}, [10]int{}, 2, 3, 0, 0},
		{"in the new one", both(three(), five), []int{3, 3, 3}, [10]int{5: 2}, 6, 2, 0, 0},
	}
	for _, x := range cases {
		c := leader(1, 3, x.j, 0, 0, x.terms...)
		c.Commit = x.commit
		if x.j.Two { // a change that is not committed yet, so that nothing ends
			c.Log.Entries[2] = set(3, x.j)
		}
		x.match[1] = len(x.terms)
		c.Match = x.match
		if got, _ := core.Step(c, acks(x.from, 3, x.index)); got.Commit != x.want || got.Role != api.Leader || len(got.Log.Entries) != len(x.terms) {
			t.Errorf("%s: %+v", x.name, got)
		}
	}
}

// Without a voter nothing is committed, however many witnesses have it.
func TestCountsVoters(t *testing.T) {
	c := leader(1, 3, alone(api.Config{Voters: of(2), Witnesses: of(3, 5), Elect: 2, Commit: 2}), 0, 0, 3)
	c.Log.Entries[0] = set(3, c.Log.Conf)
	c.Match[3] = 1
	if got, _ := core.Step(c, acks(5, 3, 1)); got.Commit != 0 || got.Role != api.Leader {
		t.Errorf("two witnesses: %+v", got)
	}
	if got, _ := core.Step(c, acks(2, 3, 1)); got.Commit != 1 || got.Role != api.Follower {
		t.Errorf("a witness and a voter: %+v", got)
	}
}

func TestCountsSafe(t *testing.T) {
	wide := api.Config{Voters: of(1, 2, 5), Witnesses: of(3), Learners: of(4), Elect: 3, Commit: 2}
	cases := []struct {
		name  string
		j     api.Joint
		match [10]int
		from  int
		index int
		safe  int // before
		want  int
	}{
		{"the other voter", alone(three()), [10]int{}, 2, 2, 0, 2}, {"the other voter has all", alone(three()), [10]int{}, 2, 4, 1, 4},
		{"the witness does not count", alone(three()), [10]int{2: 1}, 3, 4, 0, 1}, {"the learner does not count", alone(three()), [10]int{2: 1}, 4, 4, 0, 1},
		{"it is safe already", alone(three()), [10]int{}, 2, 2, 2, 2}, {"more is safe already", alone(three()), [10]int{}, 2, 2, 3, 3},
		{"a third one", alone(wide), [10]int{2: 3}, 5, 1, 0, 1}, {"a third one has nothing", alone(wide), [10]int{2: 3}, 5, 0, 0, 0}, {"a third one has more", alone(wide), [10]int{2: 3}, 5, 4, 0, 3},
		{"a voter of the new ones", both(three(), wide), [10]int{2: 3}, 5, 2, 0, 2}, {"a voter of the old ones", both(wide, three()), [10]int{2: 3}, 5, 2, 0, 2},
		{"not yet, of the new ones", both(three(), wide), [10]int{}, 2, 3, 0, 0}, {"not yet, of the old ones", both(wide, three()), [10]int{}, 2, 3, 0, 0},
	}
	for _, x := range cases {
		c := leader(1, 3, x.j, 0, 0, 3, 3, 3, 3)
		if x.j.Two {
			c.Log.Entries[3] = set(3, x.j)
		}
		x.match[1] = 4
		c.Match, c.Safe = x.match, x.safe
		if got, _ := core.Step(c, acks(x.from, 3, x.index)); got.Safe != x.want {
			t.Errorf("%s: %+v", x.name, got)
		}
	}
}

// When both configurations have committed a change, the new one alone follows, and is counted at once.
func TestCountsTheEndOfAChange(t *testing.T) {
	five := api.Config{Voters: of(1, 2, 5), Witnesses: of(3), Elect: 3, Commit: 2}
	c := leader(1, 3, alone(three()), 5, 2, 3, 3)
	c.Log.Entries[1] = set(3, both(three(), five))
	c.Commit = 6
	got, out := core.Step(c, acks(2, 3, 6))
	want := with(c, func(c *api.Core) { c.Heard, c.Match[2], c.Next[2], c.Safe = of(2), 6, 7, 0 })
	expect(t, "not yet", got, out, want, appends(want, 2, 7, 7))
	got, out = core.Step(c, acks(2, 3, 7))
	want = with(c, func(c *api.Core) {
		c.Heard, c.Match[2], c.Next[2], c.Commit = of(2), 7, 8, 7
		c.Match[1], c.Log.Entries = 8, append(c.Log.Entries, set(3, alone(five)))
	})
	expect(t, "it is committed", got, out, want, appends(want, 2, 8, 8))
	// A change whose new configuration is the Leader alone is over with its own entry.
	c.Log.Entries[1] = set(3, both(three(), one()))
	got, out = core.Step(c, acks(2, 3, 7))
	want.Log.Entries[1], want.Log.Entries[2] = set(3, both(three(), one())), set(3, alone(one()))
	want.Commit, want.Safe = 8, 8
	expect(t, "it is over", got, out, want, appends(want, 2, 8, 8))
}

// Two configurations at Base are committed, since Base is.
func TestCountsTwoAtBase(t *testing.T) {
	c := leader(1, 3, both(three(), three()), 5, 2, 3)
	got, _ := core.Step(c, acks(9, 3, 0))
	want := with(c, func(c *api.Core) {
		c.Heard, c.Next[9] = of(9), 1
		c.Match[1], c.Log.Entries = 7, append(c.Log.Entries, set(3, alone(three())))
	})
	if !sameCore(got, want) {
		t.Errorf("%+v", got)
	}
}

// A Leader that is no voter any more steps down when that is committed, and no sooner.
func TestCountsItselfOut(t *testing.T) {
	out2 := api.Config{Voters: of(2), Witnesses: of(3), Learners: of(1, 4), Elect: 2, Commit: 2}
	c := leader(1, 3, both(three(), out2), 5, 2, 3, 3)
	c.Log.Entries[1] = set(3, alone(out2))
	c.Commit, c.Heard = 6, of(4)
	got, out := core.Step(c, acks(2, 3, 7))
	want := with(c, func(c *api.Core) { c.Heard, c.Match[2], c.Next[2], c.Safe = of(2, 4), 7, 8, 7 })
	expect(t, "not yet", got, out, want)
	c = got
	c.Wait = 5
	got, out = core.Step(c, acks(3, 3, 6))
	want = with(c, func(c *api.Core) { c.Heard, c.Match[3], c.Next[3] = of(2, 3, 4), 6, 7 })
	expect(t, "nor now", got, out, want, appends(want, 3, 7, 7))
	got, out = core.Step(c, acks(3, 3, 7))
	want = with(c, func(c *api.Core) {
		c.Heard, c.Match[3], c.Next[3], c.Commit = of(2, 3, 4), 7, 8, 7
		c.Role, c.Lead, c.Wait = 0, 0, 0
	})
	expect(t, "it is out", got, out, want)
}

// P13.6

// stable gives a Leader of three that has committed an entry of its Term: the entries are 6 (of term 2), 7 and 8 (of term 3).
func stable() api.Core {
	c := leader(1, 3, alone(three()), 5, 2, 2, 3, 3)
	c.Commit, c.Match[2], c.Match[3], c.Match[4] = 7, 7, 7, 7
	c.Heard, c.Wait = of(2), 3
	return c
}

func TestProposeCommand(t *testing.T) {
	c := stable()
	want := with(c, func(c *api.Core) {
		c.Log.Entries = append(c.Log.Entries, api.Entry{Term: 3, Kind: api.EntryCmd, Data: "new"})
		c.Match[1], c.Safe = 9, 7
	})
	// Nothing but the kind and the data of the entry counts.
	for _, e := range []api.Entry{{Kind: api.EntryCmd, Data: "new"}, {Term: 9, Kind: api.EntryCmd, Data: "new", Conf: alone(one())}, {Term: -1, Kind: api.EntryCmd, Data: "new", Conf: wrong()[1]}} {
		got, out, index, err := core.Propose(c, e)
		expect(t, "a command", got, out, want, appends(want, 2, 9, 9), appends(want, 3, 9, 9), appends(want, 4, 9, 9))
		if index != 9 || err != api.OK {
			t.Errorf("%d %d", index, err)
		}
	}
	// A Leader whose configuration commits by itself has it committed at once.
	c = leader(1, 3, alone(one()), 0, 0)
	got, out, index, err := core.Propose(c, api.Entry{Kind: api.EntryCmd})
	want = with(c, func(c *api.Core) {
		c.Log.Entries, c.Match[1], c.Commit, c.Safe = []api.Entry{{Term: 3, Kind: api.EntryCmd}}, 1, 1, 1
	})
	expect(t, "a command alone", got, out, want, appends(want, 2, 1, 1))
	if index != 1 || err != api.OK {
		t.Errorf("%d %d", index, err)
	}
}

func TestProposeChange(t *testing.T) {
	c := stable()
	to := api.Config{Voters: of(1, 4), Witnesses: of(3), Learners: of(2, 7), Elect: 2, Commit: 2}
	want := with(c, func(c *api.Core) {
		c.Log.Entries = append(c.Log.Entries, set(3, both(three(), to)))
		c.Match[1], c.Safe = 9, 7
	})
	for _, e := range []api.Entry{{Kind: api.EntryConf, Conf: api.Joint{New: to}}, {Term: 7, Kind: api.EntryConf, Data: "new", Conf: both(one(), to)}} {
		got, out, index, err := core.Propose(c, e)
		expect(t, "a change", got, out, want, appends(want, 2, 9, 9), appends(want, 3, 9, 9), appends(want, 4, 9, 9), appends(want, 7, 9, 9))
		if index != 9 || err != api.OK {
			t.Errorf("%d %d", index, err)
		}
	}
	// It goes on through both configurations: three has it by 1 and 2, to by 1 and 4.
	c = want
	c, _ = core.Step(c, acks(2, 3, 9))
	if c.Commit != 7 || len(c.Log.Entries) != 4 {
		t.Fatalf("the new ones lack it: %+v", c)
	}
	c, _ = core.Step(c, acks(4, 3, 9))
	if c.Commit != 9 || len(c.Log.Entries) != 5 || c.Log.Entries[4] != set(3, alone(to)) {
		t.Fatalf("it is committed: %+v", c)
	}
	if c, _ = core.Step(c, acks(2, 3, 10)); c.Commit != 9 || c.Role != api.Leader {
		t.Fatalf("2 has no vote any more: %+v", c)
	}
	if c, _ = core.Step(c, acks(3, 3, 10)); c.Commit != 10 || c.Role != api.Leader {
		t.Fatalf("it is over: %+v", c)
	}
}

// A change that the Leader commits by itself is over at once; index is the number of its first entry.
func TestProposeChangeAtOnce(t *testing.T) {
	c := leader(1, 3, alone(one()), 0, 0, 3)
	c.Commit = 1
	to := api.Config{Voters: of(1), Learners: of(2, 3), Elect: 1, Commit: 1}
	got, out, index, err := core.Propose(c, api.Entry{Kind: api.EntryConf, Conf: api.Joint{New: to}})
	want := with(c, func(c *api.Core) {
		c.Log.Entries = append(c.Log.Entries, set(3, both(one(), to)), set(3, alone(to)))
		c.Match[1], c.Commit, c.Safe = 3, 3, 3
	})
	expect(t, "a change", got, out, want, appends(want, 2, 2, 3), appends(want, 3, 2, 3))
	if index != 2 || err != api.OK {
		t.Errorf("%d %d", index, err)
	}
}

// A Leader that finds, when it counts its proposal, that its configuration leaves it out steps down and sends nothing.
func TestProposeItselfOut(t *testing.T) {
	c := leader(1, 3, alone(one()), 0, 0, 3)
	c.Log.Entries[0] = set(3, alone(api.Config{Voters: of(2), Elect: 1, Commit: 1}))
	c.Match[2] = 1
	got, out, index, err := core.Propose(c, api.Entry{Kind: api.EntryCmd, Data: "new"})
	want := with(c, func(c *api.Core) {
		c.Log.Entries = append(c.Log.Entries, api.Entry{Term: 3, Kind: api.EntryCmd, Data: "new"})
		c.Match[1], c.Commit, c.Safe, c.Role, c.Lead = 2, 1, 1, 0, 0
	})
	expect(t, "it steps down", got, out, want)
	if index != 2 || err != api.OK {
		t.Errorf("%d %d", index, err)
	}
}

func TestProposeErrors(t *testing.T) {
	big := api.Config{Voters: of(1, 2, 4), Witnesses: of(3), Elect: 3, Commit: 3}
	change := func(to api.Config) api.Entry { return api.Entry{Kind: api.EntryConf, Conf: api.Joint{New: to}} }
	command, none, bad := api.Entry{Kind: api.EntryCmd}, api.Entry{}, wrong()[1].Old
	stranger := api.Config{Voters: of(1, 7), Witnesses: of(3), Elect: 2, Commit: 2}
	witness := api.Config{Voters: of(1, 2), Witnesses: of(5), Elect: 2, Commit: 2}
	long := func(n int) func(c *api.Core) {
		return func(c *api.Core) {
			for len(c.Log.Entries) < n {
				c.Log.Entries = append(c.Log.Entries, cmd(6+len(c.Log.Entries), 3))
			}
		}
	}
	cases := []struct {
		name  string
		alter func(c *api.Core)
		e     api.Entry
		want  api.Errno
	}{
		{"a Follower", func(c *api.Core) { c.Role = api.Follower }, command, api.ErrLead}, {"a Candidate", func(c *api.Core) { c.Role = api.Candidate }, change(big), api.ErrLead},
		{"a Follower, of no kind", func(c *api.Core) { c.Role = api.Follower }, none, api.ErrLead},
		{"a Follower, and a full log", func(c *api.Core) { long(5000)(c); c.Role = api.Follower }, command, api.ErrLead},
		{"of no kind", func(c *api.Core) {}, none, api.ErrForm}, {"of the kind 3", func(c *api.Core) {}, api.Entry{Kind: 3}, api.ErrForm}, {"of the kind -1", func(c *api.Core) {}, api.Entry{Kind: -1, Conf: alone(big)}, api.ErrForm},
		{"of no kind, and a full log", long(5000), none, api.ErrForm},
		{"a log that is nearly full", long(4031), command, api.OK}, {"a log that is nearly full, a change", long(4031), change(big), api.OK},
		{"a full log", long(4032), command, api.ErrFull}, {"a full log, a change", long(4032), change(big), api.ErrFull}, {"a log that is more than full", long(4033), command, api.ErrFull}, {"a full log, a wrong change", long(4096), change(bad), api.ErrFull},
		{"nothing of this term is committed", func(c *api.Core) { c.Commit = 6 }, change(big), api.ErrState}, {"nothing of this term is committed, a command", func(c *api.Core) { c.Commit = 6 }, command, api.OK},
		{"nothing of this term is committed, at Base", func(c *api.Core) { c.Commit = 5 }, change(big), api.ErrState}, {"Base is of this term", func(c *api.Core) { c.Log, c.Commit = api.Log{Base: 7, BaseTerm: 3, Conf: alone(three())}, 7 }, change(big), api.OK},
		{"nothing of this term is committed, a wrong change", func(c *api.Core) { c.Commit = 6 }, change(bad), api.ErrState},
		{"a change is not committed", func(c *api.Core) { c.Log.Entries[2] = set(3, alone(three())) }, change(big), api.ErrState}, {"a change is not committed, a wrong one", func(c *api.Core) { c.Log.Entries[2] = set(3, alone(three())) }, change(bad), api.ErrState},
		{"a change is committed", func(c *api.Core) { c.Log.Entries[1] = set(3, alone(three())) }, change(big), api.OK}, {"a change is committed, all is", func(c *api.Core) { c.Log.Entries[2], c.Commit, c.Match[4] = set(3, alone(three())), 8, 8 }, change(big), api.OK},
		{"a change is not committed, a command", func(c *api.Core) { c.Log.Entries[2] = set(3, alone(three())) }, command, api.OK},
		{"two configurations", func(c *api.Core) { c.Log.Conf = both(three(), big) }, change(big), api.ErrState}, {"two configurations, a wrong one", func(c *api.Core) { c.Log.Conf = both(three(), big) }, change(bad), api.ErrState},
		{"quorums that don't meet", func(c *api.Core) {}, change(bad), api.ErrQuorum}, {"a zero one", func(c *api.Core) {}, change(api.Config{}), api.ErrQuorum},
		{"another witness", func(c *api.Core) {}, change(witness), api.ErrState}, {"a voter that was no member", func(c *api.Core) { c.Match[7] = 8 }, change(stranger), api.ErrState},
		{"a new voter that lacks one", func(c *api.Core) { c.Match[4] = 6 }, change(big), api.ErrState}, {"a new voter that lacks all", func(c *api.Core) { c.Match[4] = 0 }, change(big), api.ErrState},
		{"a new voter that has just what it must", func(c *api.Core) { c.Match[4] = 7 }, change(big), api.OK}, {"a new voter that has more", func(c *api.Core) { c.Match[4] = 8 }, change(big), api.OK},
		{"a new voter that lacks one, a wrong change", func(c *api.Core) { c.Match[4] = 6 }, change(api.Config{Voters: of(1, 2, 4), Witnesses: of(3), Elect: 1, Commit: 3}), api.ErrQuorum},
		{"old voters and witnesses may lack it", func(c *api.Core) { c.Match[2], c.Match[3] = 0, 0 }, change(big), api.OK}, {"learners may lack it", func(c *api.Core) { c.Match[4] = 0 }, change(three()), api.OK},
	}
	for _, x := range cases {
		c := with(stable(), x.alter)
		last := read(c).last()
		got, out, index, err := core.Propose(c, x.e)
		if err != x.want {
			t.Errorf("%s: %d", x.name, err)
		}
		if err != api.OK && (!sameCore(got, api.Core{}) || len(out) != 0 || index != 0) {
			t.Errorf("%s: %+v %+v %d", x.name, got, out, index)
		}
		if err == api.OK && (index != last+1 || len(out) != 3 || len(got.Log.Entries) <= len(c.Log.Entries)) {
			t.Errorf("%s: %d %d", x.name, index, len(out))
		}
	}
}

// Sending

func TestSending(t *testing.T) {
	terms := []int{2, 2, 3, 3, 3, 3, 3, 3, 4, 4, 4, 4} // of the entries 6 to 17
	c := leader(1, 4, alone(three()), 5, 2, terms...)
	c.Log.Entries[2] = set(3, alone(three()))
	c.Log.Conf.Old.Learners = of(4, 5) // in force at Base only
	c.Commit, c.Safe, c.Snap, c.Wait = 13, 9, "snap", 1
	snap := api.Msg{Kind: api.MsgSnap, From: 1, To: 2, Term: 4, Index: 5, LogTerm: 2, Snap: "snap", Conf: c.Log.Conf, Commit: 13, Safe: 9}
	cases := map[int]api.Msg{
		0: snap, 1: snap, 4: snap, 5: snap,
		6: appends(c, 2, 6, 13), 7: appends(c, 2, 7, 14), 8: appends(c, 2, 8, 15), 9: appends(c, 2, 9, 16), 10: appends(c, 2, 10, 17), 11: appends(c, 2, 11, 17),
		17: appends(c, 2, 17, 17), 18: appends(c, 2, 18, 17), 19: appends(c, 2, 19, 17), 1000: appends(c, 2, 1000, 17), 2 * top: appends(c, 2, 2*top, 17),
	}
	for next, want := range cases {
		c.Next = [10]int{1: 6, 2: next, 3: 17, 4: 18, 5: 6}
		_, out := core.Tick(c)
		if !sameMsgs(out, []api.Msg{want, appends(c, 3, 17, 17), appends(c, 4, 18, 17)}) {
			t.Errorf("Next %d: %+v", next, out)
		}
	}
	// What appends gives, once as it is written down.
	c.Next[2] = 6
	if _, out := core.Tick(c); out[0].Index != 5 || out[0].LogTerm != 2 || len(out[0].Entries) != 8 || out[0].Entries[7] != cmd(13, 3) || out[0].Commit != 13 || out[0].Safe != 9 {
		t.Errorf("%+v", out[0])
	}
	c.Next[2] = 19
	if _, out := core.Tick(c); out[0].Kind != api.MsgAppend || out[0].Index != 18 || out[0].LogTerm != 0 || len(out[0].Entries) != 0 || out[0].Conf != (api.Joint{}) || out[0].Snap != "" {
		t.Errorf("%+v", out[0])
	}
}

// The others are the members of both configurations, whether they have a vote or not, without the Leader, be it one of them or not.
func TestTheOthers(t *testing.T) {
	a := api.Config{Voters: of(2, 9), Witnesses: of(5), Learners: of(1), Elect: 2, Commit: 2}
	b := api.Config{Voters: of(9, 3), Witnesses: of(5), Learners: of(7), Elect: 2, Commit: 2}
	for id, want := range map[int][]int{1: {2, 3, 5, 7, 9}, 2: {1, 3, 5, 7, 9}, 9: {1, 2, 3, 5, 7}, 4: {1, 2, 3, 5, 7, 9}} {
		c := leader(id, 3, both(a, b), 0, 0, 3)
		c.Wait = 1
		_, out := core.Tick(c)
		var to []int
		for _, m := range out {
			to = append(to, m.To)
		}
		if len(to) != len(want) {
			t.Fatalf("%d: %v", id, to)
		}
		for i := range to {
			if to[i] != want[i] || out[i].From != id || out[i].Term != 3 {
				t.Errorf("%d: %+v", id, out[i])
			}
		}
	}
}
