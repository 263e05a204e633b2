package core_test

import (
	"math/rand"
	"slices"
	"testing"

	"antipode/api"
	"antipode/conf"
	"antipode/core"
)

// P13.7: cores, the messages between them, and whoever does harm to both.

// place is an entry by its number and its term.
type place struct{ no, term int }

// fact is what each log that has an entry at a place has there: the entry, the term ahead of it, the configuration in force.
type fact struct {
	e     api.Entry
	ahead int
	conf  api.Joint
}

// run is cores and what was seen of them from the start on.
type run struct {
	t         *testing.T
	r         *rand.Rand
	cores     []api.Core // by node; 0: none
	side      []int      // by node: only those of one side hear each other
	net       []api.Msg
	leaders   map[int]int // by term
	stood     []int       // by node: the last term in which it stood
	facts     map[place]fact
	committed map[int]place // by number: what is committed, and in which term that was first so
	wins      []api.Core
	seen      map[string]int
}

// begin gives so many cores that have seen nothing yet.
func begin(t *testing.T, seed int64, nodes int, c api.Config, seen map[string]int) *run {
	x := &run{t: t, r: rand.New(rand.NewSource(seed)), cores: make([]api.Core, nodes+1), side: make([]int, nodes+1), stood: make([]int, nodes+1), seen: seen}
	x.leaders, x.facts, x.committed = map[int]int{}, map[place]fact{}, map[int]place{}
	for id := 1; id <= nodes; id++ {
		x.cores[id] = core.New(id, alone(c))
	}
	return x
}

// becomes makes of the core id what an event made of it, and holds that against all that was seen.
func (x *run) becomes(id int, c api.Core, out []api.Msg) {
	before := x.cores[id]
	x.cores[id] = c
	x.net = append(x.net, out...)
	// A Leader that steps down keeps Match, and its log may be cut then.
	valid, last := c, read(c).last()
	for n := range valid.Match {
		valid.Match[n] = min(c.Match[n], last)
	}
	if !core.May(valid) || c.ID != id || c.Term < before.Term {
		x.t.Fatalf("%+v became %+v", before, c)
	}
	x.checkLead(before, c)
	if !slices.Equal(before.Log.Entries, c.Log.Entries) || before.Log.Base != c.Log.Base {
		x.checkLog(c)
	}
	x.checkCommit(c)
}

// checkLead: one Leader a term, none that was no voter when it stood, and never a witness.
func (x *run) checkLead(before, c api.Core) {
	if c.Term > before.Term && c.Vote == c.ID {
		if !conf.Leads(read(before).conf(), c.ID) {
			x.t.Fatalf("it stands: %+v", before)
		}
		x.stood[c.ID] = c.Term
	}
	if c.Role != api.Leader {
		return
	}
	if j := read(c).conf(); x.stood[c.ID] != c.Term || in(j.Old.Witnesses|j.New.Witnesses, c.ID) {
		x.t.Fatalf("it leads: %+v", c)
	}
	if before.Role == api.Leader {
		return
	}
	if n, is := x.leaders[c.Term]; is {
		x.t.Fatalf("%d and %d lead in %d", n, c.ID, c.Term)
	}
	x.leaders[c.Term] = c.ID
	x.wins = append(x.wins, c)
	x.seen["wins"]++
}

// checkLog: logs that have an entry of a number and a term have the same up to it.
func (x *run) checkLog(c api.Core) {
	l := c.Log
	if l.Base > 0 {
		if f, is := x.facts[place{l.Base, l.BaseTerm}]; !is || f.conf != l.Conf || c.Snap != text(l.Base, l.BaseTerm) {
			x.t.Fatalf("%+v is the Base of %+v", f, c)
		}
	}
	f := fact{ahead: l.BaseTerm, conf: l.Conf}
	for i, e := range l.Entries {
		if e.Kind == api.EntryConf {
			f.conf = e.Conf
		}
		f.e = e
		at := place{l.Base + 1 + i, e.Term}
		if known, is := x.facts[at]; is && known != f {
			x.t.Fatalf("%+v: %+v and %+v", at, known, f)
		}
		x.facts[at] = f
		f.ahead = e.Term
	}
}

// checkCommit: what is committed stays so.
func (x *run) checkCommit(c api.Core) {
	r := read(c)
	for no := max(c.Log.Base, 1); no <= c.Commit; no++ {
		known, is := x.committed[no]
		if is && known.no != r.term(no) {
			x.t.Fatalf("%d: %+v is committed, not what is in %+v", no, known, c)
		}
		if !is || c.Term < known.term {
			x.committed[no] = place{r.term(no), c.Term}
		}
	}
}

// checkWins: what is committed is in the log of each Leader of a later term.
func (x *run) checkWins() {
	for _, c := range x.wins {
		r := read(c)
		for no, known := range x.committed {
			if known.term < c.Term && no >= c.Log.Base && r.term(no) != known.no {
				x.t.Fatalf("%d, %+v, is not in the log of %+v", no, known, c)
			}
		}
	}
}

func (x *run) tick(id int) {
	c, out := core.Tick(x.cores[id])
	if x.cores[id].Role == api.Leader && c.Role != api.Leader {
		x.seen["leaders without a quorum"]++
	}
	x.becomes(id, c, out)
}

// deliver takes the message i out of the net; it comes unless something lies between.
func (x *run) deliver(i int) {
	m := x.net[i]
	x.net = slices.Delete(x.net, i, i+1)
	if m.To >= len(x.cores) || x.side[m.From] != x.side[m.To] {
		return
	}
	before := x.cores[m.To]
	c, out := core.Step(before, m)
	switch {
	case c.Log.Base > before.Log.Base:
		x.seen["snapshots"]++
	case m.Kind == api.MsgLend && !slices.Equal(before.Log.Entries, c.Log.Entries):
		x.seen["lends"]++
	case !slices.Equal(before.Log.Entries, c.Log.Entries[:min(len(before.Log.Entries), len(c.Log.Entries))]):
		x.seen["cuts"]++
	}
	x.becomes(m.To, c, out)
}

func (x *run) propose(id int, e api.Entry) {
	c, out, index, err := core.Propose(x.cores[id], e)
	if err != api.OK {
		return
	}
	if e, is := read(c).at[index]; !is || e.Term != c.Term {
		x.t.Fatalf("%d of %+v", index, c)
	}
	x.seen["proposals"]++
	if e.Kind == api.EntryConf {
		x.seen["changes"]++
	}
	x.becomes(id, c, out)
}

// anyChange gives a configuration that may follow j, or one that may not.
func (x *run) anyChange(j api.Joint) api.Config {
	to := api.Config{Witnesses: j.Old.Witnesses}
	for id := 1; id < len(x.cores); id++ {
		switch {
		case in(to.Witnesses, id):
		case in(j.Old.Voters|j.Old.Learners, id) && x.r.Intn(3) > 0:
			to.Voters |= of(id)
		case x.r.Intn(2) == 0:
			to.Learners |= of(id)
		}
	}
	n := len(nodesWhere(func(n int) bool { return in(to.Voters|to.Witnesses, n) }))
	to.Elect = n/2 + 1 + x.r.Intn(n-n/2+1)
	to.Commit = n + 1 - to.Elect + x.r.Intn(2)
	return to
}

// event lets something happen.
func (x *run) event() {
	id := 1 + x.r.Intn(len(x.cores)-1)
	c := x.cores[id]
	switch n := x.r.Intn(1000); {
	case n < 700 && len(x.net) > 0:
		x.deliver(x.r.Intn(min(len(x.net), 1+x.r.Intn(30))))
	case n < 720 && len(x.net) > 0:
		x.net = append(x.net, x.net[x.r.Intn(len(x.net))])
	case n < 735 && len(x.net) > 0:
		x.net = slices.Delete(x.net, 0, 1+x.r.Intn(min(len(x.net), 3)))
	case n < 780:
		x.tick(id)
	case n < 820:
		for id := range x.cores[1:] {
			x.tick(id + 1)
		}
	case n < 825:
		for range x.r.Intn(40) {
			x.tick(id)
		}
	case n < 920:
		no := read(c).last() + 1
		x.propose(id, api.Entry{Kind: api.EntryCmd, Data: text(no, c.Term)})
	case n < 950:
		x.propose(id, api.Entry{Kind: api.EntryConf, Conf: api.Joint{New: x.anyChange(read(c).conf())}})
	case n < 970:
		to := c.Log.Base + x.r.Intn(c.Commit-c.Log.Base+1)
		if d, e := core.Compact(c, to, text(to, read(c).term(to))); e == api.OK && to > 0 {
			x.becomes(id, d, nil)
		}
	case n < 973:
		x.seen["restarts"]++
		x.becomes(id, core.Restart(c), nil)
	case n < 976:
		x.side[id] = 1 - x.side[id]
	case n < 990 && c.Role == api.Leader:
		x.side[id] = 1 - x.side[id]
		for range x.r.Intn(4) {
			x.propose(id, api.Entry{Kind: api.EntryCmd, Data: text(read(x.cores[id]).last()+1, c.Term)})
		}
	case n < 994:
		clear(x.side)
	}
}

func starts() []api.Config {
	return []api.Config{
		{Voters: of(1, 2), Witnesses: of(3), Learners: of(4), Elect: 2, Commit: 2},
		{Voters: of(1, 2, 3), Elect: 2, Commit: 2},
		{Voters: of(1, 2), Witnesses: of(3), Elect: 3, Commit: 1},
		{Voters: of(1, 2, 4), Witnesses: of(3, 5), Elect: 3, Commit: 3},
		{Voters: of(1, 2, 4, 5), Elect: 3, Commit: 2},
		{Voters: of(2, 4), Witnesses: of(1, 3), Learners: of(5), Elect: 3, Commit: 2},
		{Voters: of(1), Learners: of(2, 3), Elect: 1, Commit: 1},
	}
}

func TestRuns(t *testing.T) {
	seen := map[string]int{}
	for seed := range int64(84) {
		c := starts()[int(seed)%len(starts())]
		x := begin(t, seed, 5, c, seen)
		for range 3000 {
			x.event()
		}
		x.checkWins()
		seen["committed"] += len(x.committed)
	}
	// Nothing is shown by runs in which nothing happens.
	for what, least := range map[string]int{"wins": 300, "leaders without a quorum": 90, "lends": 60, "cuts": 10, "snapshots": 130, "proposals": 3000, "changes": 250, "restarts": 500, "committed": 3000} {
		if seen[what] < least {
			t.Errorf("%s: only %d", what, seen[what])
		}
	}
}
