package core

import (
	"antipode/api"
	"antipode/conf"
	"antipode/entries"
	"antipode/sets"
)

// Step returns c with the message m, and what it sends.
func Step(c api.Core, m api.Msg) (api.Core, []api.Msg) {
	c = own(c)
	if ignores(c, m) {
		return c, nil
	}
	if m.Term > c.Term {
		c = enter(c, m.Term)
	}
	if m.Term < c.Term {
		return c, decline(c, m)
	}
	m.Index, m.Commit, m.Safe = bounded(m.Index), bounded(m.Commit), bounded(m.Safe)
	var out []api.Msg
	switch m.Kind {
	case api.MsgAsk:
		c, out = takeAsk(c, m)
	case api.MsgVote:
		c, out = takeVote(c, m)
	case api.MsgAppend:
		c, out = takeAppend(c, m)
	case api.MsgAck:
		c, out = takeAck(c, m)
	case api.MsgSnap:
		c, out = takeSnap(c, m)
	case api.MsgLend:
		c = takeLend(c, m)
	}
	return c, out
}

// ignores tells whether m is nothing to c.
func ignores(c api.Core, m api.Msg) bool {
	if m.To != c.ID || m.From == c.ID || !isNode(m.From) || !within(m.Term, 1, api.MaxTerm) {
		return true
	}
	switch m.Kind {
	case api.MsgAsk:
		// Who hears of a leader doesn't let somebody else disturb it.
		return c.Role == api.Leader || c.Lead != 0 && c.Wait < api.Sticky
	case api.MsgVote, api.MsgAppend, api.MsgAck, api.MsgSnap, api.MsgLend:
		return false
	}
	return true
}

// enter returns c in a later term.
func enter(c api.Core, term int) api.Core {
	if c.Role == api.Leader {
		c.Wait = 0
	}
	c.Term, c.Vote, c.Lead, c.Role = term, 0, 0, api.Follower
	return c
}

// decline returns what c answers to m, which is of an elder term.
func decline(c api.Core, m api.Msg) []api.Msg {
	switch m.Kind {
	case api.MsgAsk:
		return []api.Msg{letter(c, api.MsgVote, m.From)}
	case api.MsgAppend, api.MsgSnap:
		return []api.Msg{letter(c, api.MsgAck, m.From)}
	}
	return nil
}

// bounded returns the number nearest to n that a message may tell.
func bounded(n int) int {
	return min(max(n, 0), api.MaxTerm)
}

// takeAsk gives the sender of m a vote, or lends it what it lacks.
func takeAsk(c api.Core, m api.Msg) (api.Core, []api.Msg) {
	newer := entries.Newer(c.Log, m.Index, m.LogTerm)
	vote := letter(c, api.MsgVote, m.From)
	vote.Yes = newer && c.Role == api.Follower && (c.Vote == 0 || c.Vote == m.From)
	if vote.Yes {
		c.Vote, c.Wait = m.From, 0
	}
	if newer {
		return c, []api.Msg{vote}
	}
	return c, []api.Msg{vote, lend(c, m)}
}

// lend returns the entries of c that the sender of m may lack.
func lend(c api.Core, m api.Msg) api.Msg {
	l := letter(c, api.MsgLend, m.From)
	l.Index, l.LogTerm = c.Log.Base, c.Log.BaseTerm
	if term, is := entries.Term(c.Log, m.Index); is && term == m.LogTerm {
		l.Index, l.LogTerm = m.Index, term
	}
	l.Entries = entries.Slice(c.Log, l.Index+1, len(c.Log.Entries))
	return l
}

// takeVote counts a vote.
func takeVote(c api.Core, m api.Msg) (api.Core, []api.Msg) {
	if c.Role != api.Candidate || !m.Yes {
		return c, nil
	}
	c.Votes = sets.With(c.Votes, m.From)
	if !conf.Elects(entries.Conf(c.Log), c.Votes) {
		return c, nil
	}
	return win(c)
}

// takeLend takes a log that was lent, if it takes c on.
func takeLend(c api.Core, m api.Msg) api.Core {
	if c.Role == api.Leader || !mayTake(c, m.Entries) {
		return c
	}
	l, _, ok := entries.Merge(c.Log, m.Index, m.LogTerm, m.Entries)
	if !ok || !mayBecome(l) || !entries.Newer(c.Log, entries.Last(l), lastTerm(l)) {
		return c
	}
	c.Log = l
	c.Commit = min(c.Commit, entries.Last(l))
	return c
}

// takeAppend takes the entries of a leader.
func takeAppend(c api.Core, m api.Msg) (api.Core, []api.Msg) {
	if c.Role == api.Leader || !mayTake(c, m.Entries) {
		return c, nil
	}
	l, last, ok := entries.Merge(c.Log, m.Index, m.LogTerm, m.Entries)
	if ok && !mayBecome(l) {
		return c, nil
	}
	c = follow(c, m.From)
	ack := letter(c, api.MsgAck, m.From)
	if !ok {
		ack.Index = max(min(m.Index-1, entries.Last(c.Log)), 0)
		return c, []api.Msg{ack}
	}
	c.Log = l
	c.Commit = min(max(c.Commit, min(m.Commit, last)), entries.Last(l))
	c.Safe = max(c.Safe, m.Safe)
	ack.Yes, ack.Index = true, last
	return c, []api.Msg{ack}
}

// takeSnap takes the snapshot of a leader.
func takeSnap(c api.Core, m api.Msg) (api.Core, []api.Msg) {
	if c.Role == api.Leader || !conf.MayJoint(m.Conf) || !within(m.LogTerm, 0, c.Term) {
		return c, nil
	}
	c = follow(c, m.From)
	c.Safe = max(c.Safe, m.Safe)
	if m.Index > c.Commit {
		c.Log, c.Snap, c.Commit = restored(c.Log, m), m.Snap, m.Index
	}
	ack := letter(c, api.MsgAck, m.From)
	ack.Yes, ack.Index = true, c.Commit
	return c, []api.Msg{ack}
}

// restored returns l as the snapshot of m leaves it: what follows stays, if it follows the same.
func restored(l api.Log, m api.Msg) api.Log {
	r := api.Log{Base: m.Index, BaseTerm: m.LogTerm}
	if term, is := entries.Term(l, m.Index); is && term == m.LogTerm {
		r, _ = entries.Compact(l, m.Index)
	}
	r.Conf = m.Conf
	return r
}

// takeAck takes what a replica tells the Leader c of its log.
func takeAck(c api.Core, m api.Msg) (api.Core, []api.Msg) {
	if c.Role != api.Leader {
		return c, nil
	}
	n, index := m.From, min(m.Index, entries.Last(c.Log))
	c.Heard = sets.With(c.Heard, n)
	if !m.Yes {
		c.Next[n] = max(index, c.Match[n]) + 1
		return c, []api.Msg{send(c, n)}
	}
	c.Match[n] = max(c.Match[n], index)
	c.Next[n] = c.Match[n] + 1
	c = count(c)
	if c.Role != api.Leader || c.Next[n] > entries.Last(c.Log) {
		return c, nil
	}
	return c, []api.Msg{send(c, n)}
}

// follow returns c as a follower of the leader n.
func follow(c api.Core, n int) api.Core {
	c.Role, c.Lead, c.Wait = api.Follower, n, 0
	return c
}

// mayTake tells whether es may come from a replica that c believes.
func mayTake(c api.Core, es []api.Entry) bool {
	for _, e := range es {
		if e.Term > c.Term {
			return false
		}
	}
	return mayConfs(es)
}

// mayBecome tells whether l may become the log of a core.
func mayBecome(l api.Log) bool {
	return entries.May(l) && len(l.Entries) <= api.MaxLog
}
