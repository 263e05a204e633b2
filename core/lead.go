package core

import (
	"antipode/api"
	"antipode/conf"
	"antipode/entries"
	"antipode/sets"
)

// fullLog is the number of entries from which on nothing is proposed: the rest is for the entries of new leaders and the ends of changes.
const fullLog = api.MaxLog - 64

// Tick returns c a tick later, and what it sends.
func Tick(c api.Core) (api.Core, []api.Msg) {
	c = own(c)
	c.Wait++
	if c.Role == api.Leader {
		return beat(c)
	}
	if !conf.Leads(entries.Conf(c.Log), c.ID) || c.Wait < Patience(c.ID) || c.Term >= api.MaxTerm {
		return c, nil
	}
	return stand(c)
}

// Propose returns c with e as the entry index of its log, and what it sends, or an error.
func Propose(c api.Core, e api.Entry) (d api.Core, out []api.Msg, index int, err api.Errno) {
	e, err = proposal(c, e)
	if err != api.OK {
		return api.Core{}, nil, 0, err
	}
	d = push(c, e)
	index = entries.Last(d.Log)
	d = count(d)
	if d.Role == api.Leader {
		out = sendAll(d)
	}
	return d, out, index, api.OK
}

// beat returns the Leader c after a tick, and what it sends.
func beat(c api.Core) (api.Core, []api.Msg) {
	var out []api.Msg
	if c.Wait%api.Beat == 0 {
		out = sendAll(c)
	}
	if c.Wait != api.Sticky {
		return c, out
	}
	if !conf.Commits(entries.Conf(c.Log), sets.With(c.Heard, c.ID)) {
		return stepDown(c), out
	}
	c.Heard, c.Wait = 0, 0
	return c, out
}

// stand returns c in an election that it has started, and what it sends.
func stand(c api.Core) (api.Core, []api.Msg) {
	c.Term++
	c.Role, c.Vote, c.Votes, c.Lead, c.Wait = api.Candidate, c.ID, sets.With(0, c.ID), 0, 0
	j := entries.Conf(c.Log)
	if conf.Elects(j, c.Votes) {
		return win(c)
	}
	var out []api.Msg
	for _, n := range others(c, conf.Voting(j)) {
		m := letter(c, api.MsgAsk, n)
		m.Index, m.LogTerm, m.Commit = entries.Last(c.Log), lastTerm(c.Log), c.Commit
		out = append(out, m)
	}
	return c, out
}

// win returns c as the Leader, and what it sends.
func win(c api.Core) (api.Core, []api.Msg) {
	c.Role, c.Lead, c.Wait, c.Heard = api.Leader, c.ID, 0, 0
	c.Match = [10]int{}
	for n := range c.Next {
		c.Next[n] = entries.Last(c.Log) + 1
	}
	// What elder terms left is only committed with an entry of this one.
	c = count(push(c, api.Entry{Kind: api.EntryNone}))
	return c, sendAll(c)
}

// stepDown returns c as a follower of nobody.
func stepDown(c api.Core) api.Core {
	c.Role, c.Lead, c.Wait = api.Follower, 0, 0
	return c
}

// push returns c with e, of its Term, as its last entry.
func push(c api.Core, e api.Entry) api.Core {
	e.Term = c.Term
	c.Log = entries.Push(c.Log, e)
	if isNode(c.ID) {
		c.Match[c.ID] = entries.Last(c.Log)
	}
	return c
}

// count returns the Leader c with all committed that its configuration has, and with what follows for a change of that.
func count(c api.Core) api.Core {
	j := entries.Conf(c.Log)
	c.Commit = committed(c, j)
	c.Safe = max(c.Safe, leastMatch(c, j))
	switch {
	case confAt(c.Log) > c.Commit:
		return c
	case j.Two:
		return count(push(c, api.Entry{Kind: api.EntryConf, Conf: conf.Final(j)}))
	case !conf.Leads(j, c.ID):
		return stepDown(c)
	}
	return c
}

// committed returns the greatest number that j commits, or Commit.
func committed(c api.Core, j api.Joint) int {
	for i := entries.Last(c.Log); i > max(c.Commit, c.Log.Base); i-- {
		// An entry of an elder term may be replaced even if all of a quorum have it.
		term, _ := entries.Term(c.Log, i)
		if term == c.Term && conf.Commits(j, holders(c, i)) {
			return i
		}
	}
	return c.Commit
}

// holders returns the nodes that have the log up to the number i.
func holders(c api.Core, i int) api.Set {
	var s api.Set
	for n := 1; n <= api.MaxNodes; n++ {
		if c.Match[n] >= i {
			s = sets.With(s, n)
		}
	}
	return s
}

// leastMatch returns the number up to which all voters of j have the log.
func leastMatch(c api.Core, j api.Joint) int {
	least := entries.Last(c.Log)
	for n := 1; n <= api.MaxNodes; n++ {
		if conf.Leads(j, n) {
			least = min(least, c.Match[n])
		}
	}
	return least
}

// sendAll returns what the Leader c sends to all others.
func sendAll(c api.Core) []api.Msg {
	var out []api.Msg
	for _, n := range others(c, conf.Members(entries.Conf(c.Log))) {
		out = append(out, send(c, n))
	}
	return out
}

// send returns what the Leader c sends to the node n.
func send(c api.Core, n int) api.Msg {
	next := c.Next[n]
	m := letter(c, api.MsgAppend, n)
	m.Commit, m.Safe = c.Commit, c.Safe
	if next <= c.Log.Base {
		m.Kind, m.Index, m.LogTerm = api.MsgSnap, c.Log.Base, c.Log.BaseTerm
		m.Snap, m.Conf = c.Snap, c.Log.Conf
		return m
	}
	m.Index = next - 1
	m.LogTerm, _ = entries.Term(c.Log, m.Index)
	m.Entries = entries.Slice(c.Log, next, api.Batch)
	return m
}

// proposal returns the entry that c appends for e, or why it doesn't.
func proposal(c api.Core, e api.Entry) (api.Entry, api.Errno) {
	switch {
	case c.Role != api.Leader:
		return api.Entry{}, api.ErrLead
	case e.Kind != api.EntryCmd && e.Kind != api.EntryConf:
		return api.Entry{}, api.ErrForm
	case len(c.Log.Entries) >= fullLog:
		return api.Entry{}, api.ErrFull
	case e.Kind == api.EntryCmd:
		return api.Entry{Kind: e.Kind, Data: e.Data}, api.OK
	}
	j, err := change(c, e.Conf.New)
	if err != api.OK {
		return api.Entry{}, err
	}
	return api.Entry{Kind: e.Kind, Conf: j}, api.OK
}

// change returns the joint that leads c to the configuration to, or why there is none now.
func change(c api.Core, to api.Config) (api.Joint, api.Errno) {
	term, _ := entries.Term(c.Log, c.Commit)
	if term != c.Term || confAt(c.Log) > c.Commit {
		return api.Joint{}, api.ErrState
	}
	now := entries.Conf(c.Log)
	j, err := conf.Change(now, to)
	if err != api.OK {
		return api.Joint{}, err
	}
	for _, n := range sets.List(to.Voters &^ now.Old.Voters) {
		if c.Match[n] < c.Commit {
			return api.Joint{}, api.ErrState
		}
	}
	return j, api.OK
}
