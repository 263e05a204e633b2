package core_test

import (
	"maps"
	"math/rand"
	"reflect"
	"slices"
	"strconv"
	"testing"

	"antipode/api"
	"antipode/conf"
	"antipode/core"
)

// The chapter's words over numbers and what has them, without places in a slice, and what the tests go through.

const top = 1 << 40 // the most that a term may be, and Wait and Safe

// of gives the set of the nodes, of which none may be there twice.
func of(nodes ...int) api.Set {
	powers := []int{0, 2, 4, 8, 16, 32, 64, 128, 256, 512}
	s := 0
	for _, n := range nodes {
		s += powers[n]
	}
	return api.Set(s)
}

// in tells whether the node n is in s.
func in(s api.Set, n int) bool {
	return 1 <= n && n <= 9 && int(s)/int(of(n))%2 == 1
}

// nodesWhere lists the nodes for which is tells true, rising.
func nodesWhere(is func(n int) bool) []int {
	var l []int
	for n := 1; n <= 9; n++ {
		if is(n) {
			l = append(l, n)
		}
	}
	return l
}

// text is what the command with that number and term has.
func text(no, term int) string {
	return strconv.Itoa(no) + " of " + strconv.Itoa(term)
}

// cmd gives the command with that number and term.
func cmd(no, term int) api.Entry {
	return api.Entry{Term: term, Kind: api.EntryCmd, Data: text(no, term)}
}

// cmds gives commands of these terms, which follow the number prev.
func cmds(prev int, terms ...int) []api.Entry {
	var es []api.Entry
	for i, term := range terms {
		es = append(es, cmd(prev+1+i, term))
	}
	return es
}

// set gives an entry that sets a configuration.
func set(term int, j api.Joint) api.Entry {
	return api.Entry{Term: term, Kind: api.EntryConf, Conf: j}
}

// plainMsg gives m without what tells an empty list from none.
func plainMsg(m api.Msg) api.Msg {
	if len(m.Entries) == 0 {
		m.Entries = nil
	}
	return m
}

// sameMsgs tells whether two lists have the same messages.
func sameMsgs(a, b []api.Msg) bool {
	return slices.EqualFunc(a, b, func(x, y api.Msg) bool { return reflect.DeepEqual(plainMsg(x), plainMsg(y)) })
}

// sameCore tells whether two cores are the same one.
func sameCore(a, b api.Core) bool {
	same := slices.Equal(a.Log.Entries, b.Log.Entries)
	a.Log.Entries, b.Log.Entries = nil, nil
	return same && reflect.DeepEqual(a, b)
}

// replica is a core, the entries of whose log stand at their numbers, and what it has sent.
type replica struct {
	c   api.Core
	at  map[int]api.Entry
	out []api.Msg
}

func read(c api.Core) *replica {
	r := &replica{c: c, at: map[int]api.Entry{}}
	for i, e := range c.Log.Entries {
		r.at[c.Log.Base+i+1] = e
	}
	r.c.Log.Entries = nil
	return r
}

func (r *replica) told() (api.Core, []api.Msg) {
	c := r.c
	c.Log.Entries = r.behind(c.Log.Base, len(r.at))
	return c, r.out
}

func (r *replica) last() int {
	return r.c.Log.Base + len(r.at)
}

// term gives the term of a number, -1 if it has none.
func (r *replica) term(no int) int {
	if e, is := r.at[no]; is {
		return e.Term
	}
	if no == r.c.Log.Base {
		return r.c.Log.BaseTerm
	}
	return -1
}

// behind lists the entries behind a number, and no more than most.
func (r *replica) behind(no, most int) []api.Entry {
	var es []api.Entry
	for e, is := r.at[no+1]; is && len(es) < most; e, is = r.at[no+1] {
		es = append(es, e)
		no++
	}
	return es
}

func (r *replica) confAt() int {
	at := r.c.Log.Base
	for no, e := range r.at {
		if e.Kind == 2 {
			at = max(at, no)
		}
	}
	return at
}

func (r *replica) conf() api.Joint {
	if e, is := r.at[r.confAt()]; is {
		return e.Conf
	}
	return r.c.Log.Conf
}

// configs lists the one or two configurations in force.
func (r *replica) configs() []api.Config {
	j := r.conf()
	if j.Two {
		return []api.Config{j.Old, j.New}
	}
	return []api.Config{j.Old}
}

// any lists the nodes that are in one of the sets of one of the configurations.
func (r *replica) any(sets func(c api.Config) []api.Set) []int {
	return nodesWhere(func(n int) bool {
		return slices.ContainsFunc(r.configs(), func(c api.Config) bool {
			return slices.ContainsFunc(sets(c), func(s api.Set) bool { return in(s, n) })
		})
	})
}

func (r *replica) voters() []int {
	return r.any(func(c api.Config) []api.Set { return []api.Set{c.Voters} })
}

func (r *replica) voting() []int {
	return r.any(func(c api.Config) []api.Set { return []api.Set{c.Voters, c.Witnesses} })
}

func (r *replica) members() []int {
	return r.any(func(c api.Config) []api.Set { return []api.Set{c.Voters, c.Witnesses, c.Learners} })
}

func (r *replica) leads() bool {
	return slices.Contains(r.voters(), r.c.ID)
}

// agree tells whether, in each configuration, so many of those with a vote are as is tells, and one that is of those who must.
func (r *replica) agree(is func(n int) bool, many func(c api.Config) int, must func(c api.Config) api.Set) bool {
	for _, c := range r.configs() {
		with := nodesWhere(func(n int) bool { return is(n) && (in(c.Voters, n) || in(c.Witnesses, n)) })
		if len(with) < many(c) || !slices.ContainsFunc(with, func(n int) bool { return in(must(c), n) }) {
			return false
		}
	}
	return true
}

func (r *replica) elects() bool {
	return r.agree(func(n int) bool { return in(r.c.Votes, n) }, func(c api.Config) int { return c.Elect }, func(c api.Config) api.Set { return c.Voters | c.Witnesses })
}

func (r *replica) commits(is func(n int) bool) bool {
	return r.agree(is, func(c api.Config) int { return c.Commit }, func(c api.Config) api.Set { return c.Voters })
}

func (r *replica) say(m api.Msg) {
	m.From, m.Term = r.c.ID, r.c.Term
	r.out = append(r.out, m)
}

func (r *replica) sendTo(n int) {
	l := r.c.Log
	if r.c.Next[n] <= l.Base {
		r.say(api.Msg{Kind: 5, To: n, Index: l.Base, LogTerm: l.BaseTerm, Snap: r.c.Snap, Conf: l.Conf, Commit: r.c.Commit, Safe: r.c.Safe})
		return
	}
	prev := r.c.Next[n] - 1
	r.say(api.Msg{Kind: 3, To: n, Index: prev, LogTerm: max(r.term(prev), 0), Entries: r.behind(prev, 8), Commit: r.c.Commit, Safe: r.c.Safe})
}

func (r *replica) sendOthers() {
	for _, n := range r.members() {
		if n != r.c.ID {
			r.sendTo(n)
		}
	}
}

func (r *replica) stepDown() {
	r.c.Role, r.c.Lead, r.c.Wait = 0, 0, 0
}

func (r *replica) add(e api.Entry) int {
	e.Term = r.c.Term
	no := r.last() + 1
	r.at[no] = e
	r.c.Match[r.c.ID] = no
	return no
}

func (r *replica) count() {
	commit := r.c.Commit
	for no := commit + 1; no <= r.last(); no++ {
		if r.term(no) == r.c.Term && r.commits(func(n int) bool { return r.c.Match[n] >= no }) {
			r.c.Commit = no
		}
	}
	least := slices.MinFunc(r.voters(), func(a, b int) int { return r.c.Match[a] - r.c.Match[b] })
	if r.c.Match[least] > r.c.Safe {
		r.c.Safe = r.c.Match[least]
	}
	if r.confAt() > r.c.Commit {
		return
	}
	if r.conf().Two {
		r.add(api.Entry{Kind: 2, Conf: api.Joint{Old: r.conf().New}})
		r.count()
	} else if !r.leads() {
		r.stepDown()
	}
}

func (r *replica) win() {
	r.c.Role, r.c.Lead, r.c.Wait, r.c.Heard = 2, r.c.ID, 0, 0
	for n := 0; n < 10; n++ {
		r.c.Next[n], r.c.Match[n] = r.last()+1, 0
	}
	r.add(api.Entry{})
	r.count()
	r.sendOthers()
}

func modelTick(c api.Core) (api.Core, []api.Msg) {
	r := read(c)
	r.c.Wait++
	switch {
	case r.c.Role == 2:
		if r.c.Wait%2 == 0 {
			r.sendOthers()
		}
		if r.c.Wait == 10 && r.commits(func(n int) bool { return n == c.ID || in(c.Heard, n) }) {
			r.c.Heard, r.c.Wait = 0, 0
		} else if r.c.Wait == 10 {
			r.stepDown()
		}
	case r.leads() && r.c.Wait >= 12+4*c.ID && c.Term < top:
		r.c.Term, r.c.Role, r.c.Vote, r.c.Votes, r.c.Lead, r.c.Wait = c.Term+1, 1, c.ID, of(c.ID), 0, 0
		if r.elects() {
			r.win()
			break
		}
		for _, n := range r.voting() {
			if n != c.ID {
				r.say(api.Msg{Kind: 1, To: n, Index: r.last(), LogTerm: r.term(r.last()), Commit: c.Commit})
			}
		}
	}
	return r.told()
}

func modelStep(c api.Core, m api.Msg) (api.Core, []api.Msg) {
	r := read(c)
	switch {
	case m.To != c.ID, m.From < 1, m.From > 9, m.From == c.ID, m.Term < 1, m.Term > top, m.Kind < 1, m.Kind > 6,
		m.Kind == 1 && (c.Role == 2 || c.Lead != 0 && c.Wait < 10):
		return r.told()
	}
	if m.Term > c.Term {
		if c.Role == 2 {
			r.c.Wait = 0
		}
		r.c.Term, r.c.Vote, r.c.Lead, r.c.Role = m.Term, 0, 0, 0
	}
	if m.Term < c.Term {
		if answer := []int{1: 2, 3: 4, 5: 4, 6: 0}[m.Kind]; answer != 0 {
			r.say(api.Msg{Kind: answer, To: m.From})
		}
		return r.told()
	}
	for _, n := range []*int{&m.Index, &m.Commit, &m.Safe} {
		if *n < 0 {
			*n = 0
		} else if *n > top {
			*n = top
		}
	}
	takes := []func(*replica, api.Msg){1: (*replica).ask, (*replica).vote, (*replica).append, (*replica).ack, (*replica).snap, (*replica).lend}
	takes[m.Kind](r, m)
	return r.told()
}

// newer tells whether a log that ends so is at least as up-to-date.
func (r *replica) newer(last, term int) bool {
	own := r.term(r.last())
	return term > own || term == own && last >= r.last()
}

func (r *replica) ask(m api.Msg) {
	newer := r.newer(m.Index, m.LogTerm)
	if (r.c.Vote == 0 || r.c.Vote == m.From) && r.c.Role == 0 && newer {
		r.c.Vote, r.c.Wait = m.From, 0
		r.say(api.Msg{Kind: 2, To: m.From, Yes: true})
		return
	}
	r.say(api.Msg{Kind: 2, To: m.From})
	if newer {
		return
	}
	index := r.c.Log.Base
	if r.term(m.Index) >= 0 && r.term(m.Index) == m.LogTerm {
		index = m.Index
	}
	r.say(api.Msg{Kind: 6, To: m.From, Index: index, LogTerm: r.term(index), Entries: r.behind(index, len(r.at))})
}

func (r *replica) vote(m api.Msg) {
	if r.c.Role != 1 || !m.Yes {
		return
	}
	r.c.Votes |= of(m.From)
	if r.elects() {
		r.win()
	}
}

// merge gives the entries that a Merge leaves, and whether it succeeds; none: the message has no effect.
func (r *replica) merge(m api.Msg) (at map[int]api.Entry, ok, none bool) {
	for _, e := range m.Entries {
		none = none || e.Term > r.c.Term || e.Kind == 2 && !conf.MayJoint(e.Conf)
	}
	own := r.term(m.Index)
	if m.Index > r.last() || own >= 0 && own != m.LogTerm || m.Index+len(m.Entries) < r.c.Log.Base {
		return nil, false, none
	}
	at = maps.Clone(r.at)
	for i, e := range m.Entries {
		no := m.Index + 1 + i
		if mine, is := at[no]; no <= r.c.Log.Base || is && mine.Term == e.Term {
			continue
		}
		maps.DeleteFunc(at, func(n int, _ api.Entry) bool { return n >= no })
		at[no] = e
	}
	before := r.c.Log.BaseTerm
	for no := r.c.Log.Base + 1; no <= r.c.Log.Base+len(at); no++ {
		none = none || at[no].Term < before || at[no].Term < 1
		before = at[no].Term
	}
	return at, true, none || len(at) > 4096
}

func (r *replica) lend(m api.Msg) {
	at, ok, none := r.merge(m)
	if r.c.Role == 2 || none || !ok {
		return
	}
	merged := &replica{c: r.c, at: at}
	if !r.newer(merged.last(), merged.term(merged.last())) {
		return
	}
	r.at = at
	if r.c.Commit > r.last() {
		r.c.Commit = r.last()
	}
}

func (r *replica) append(m api.Msg) {
	at, ok, none := r.merge(m)
	if r.c.Role == 2 || none {
		return
	}
	r.c.Role, r.c.Lead, r.c.Wait = 0, m.From, 0
	if !ok {
		r.say(api.Msg{Kind: 4, To: m.From, Index: max(min(m.Index-1, r.last()), 0)})
		return
	}
	r.at = at
	last := m.Index + len(m.Entries)
	if to := min(m.Commit, last); to > r.c.Commit {
		r.c.Commit = to
	}
	if r.c.Commit > r.last() {
		r.c.Commit = r.last()
	}
	if m.Safe > r.c.Safe {
		r.c.Safe = m.Safe
	}
	r.say(api.Msg{Kind: 4, To: m.From, Yes: true, Index: last})
}

func (r *replica) snap(m api.Msg) {
	if r.c.Role == 2 || !conf.MayJoint(m.Conf) || m.LogTerm < 0 || m.LogTerm > r.c.Term {
		return
	}
	r.c.Role, r.c.Lead, r.c.Wait = 0, m.From, 0
	if m.Safe > r.c.Safe {
		r.c.Safe = m.Safe
	}
	if m.Index <= r.c.Commit {
		r.say(api.Msg{Kind: 4, To: m.From, Yes: true, Index: r.c.Commit})
		return
	}
	there := r.term(m.Index) == m.LogTerm
	maps.DeleteFunc(r.at, func(no int, _ api.Entry) bool { return !there || no <= m.Index })
	r.c.Log = api.Log{Base: m.Index, BaseTerm: m.LogTerm, Conf: m.Conf}
	r.c.Snap, r.c.Commit = m.Snap, m.Index
	r.say(api.Msg{Kind: 4, To: m.From, Yes: true, Index: m.Index})
}

func (r *replica) ack(m api.Msg) {
	if r.c.Role != 2 {
		return
	}
	r.c.Heard |= of(m.From)
	match, next := &r.c.Match[m.From], &r.c.Next[m.From]
	if !m.Yes {
		*next = min(m.Index+1, r.last()+1)
		*next = max(*next, *match+1)
		r.sendTo(m.From)
		return
	}
	*match = max(*match, min(m.Index, r.last()))
	*next = *match + 1
	r.count()
	if r.c.Role == 2 && *next <= r.last() {
		r.sendTo(m.From)
	}
}

func modelPropose(c api.Core, e api.Entry) (api.Core, []api.Msg, int, api.Errno) {
	r := read(c)
	if e := r.refuses(e); e != 0 {
		return api.Core{}, nil, 0, e
	}
	if e.Kind == 2 {
		e = api.Entry{Kind: 2, Conf: api.Joint{Old: r.conf().Old, New: e.Conf.New, Two: true}}
	}
	e.Conf.Two = e.Kind == 2
	if e.Kind == 1 {
		e = api.Entry{Kind: 1, Data: e.Data}
	}
	index := r.add(e)
	r.count()
	if r.c.Role == 2 {
		r.sendOthers()
	}
	d, out := r.told()
	return d, out, index, 0
}

// refuses tells why e is not proposed.
func (r *replica) refuses(e api.Entry) api.Errno {
	switch {
	case r.c.Role != 2:
		return api.ErrLead
	case e.Kind != 1 && e.Kind != 2:
		return api.ErrForm
	case len(r.at) >= 4032:
		return api.ErrFull
	case e.Kind == 1:
		return 0
	case r.term(r.c.Commit) != r.c.Term, r.confAt() > r.c.Commit:
		return api.ErrState
	}
	if _, err := conf.Change(r.conf(), e.Conf.New); err != 0 {
		return err
	}
	for n := 1; n <= 9; n++ {
		if in(e.Conf.New.Voters, n) && !in(r.conf().Old.Voters, n) && r.c.Match[n] < r.c.Commit {
			return api.ErrState
		}
	}
	return 0
}

// anyOf gives one of the list.
func anyOf[T any](r *rand.Rand, l ...T) T {
	return l[r.Intn(len(l))]
}

// joints lists configurations, alone and two at a time: small ones, greater ones, and some in which nodes change what they are.
func joints() []api.Joint {
	a := api.Config{Voters: of(1, 2), Witnesses: of(3), Learners: of(4), Elect: 2, Commit: 2}
	b := api.Config{Voters: of(1, 4), Witnesses: of(3), Learners: of(2), Elect: 2, Commit: 2}
	c := api.Config{Voters: of(1, 2, 5), Witnesses: of(3, 4), Elect: 3, Commit: 3}
	d := api.Config{Voters: of(1, 2, 5, 9), Elect: 3, Commit: 2}
	e := api.Config{Voters: of(2), Learners: of(1, 3), Elect: 1, Commit: 1}
	f := api.Config{Voters: of(1), Witnesses: of(3), Elect: 2, Commit: 1}
	g := api.Config{Voters: of(1, 2, 3, 4, 5, 6, 7, 8, 9), Elect: 5, Commit: 5}
	h := api.Config{Voters: of(1), Learners: of(2), Elect: 1, Commit: 1}
	var out []api.Joint
	for _, x := range []api.Config{a, b, c, d, e, f, g, h} {
		out = append(out, api.Joint{Old: x})
	}
	for _, x := range [][2]api.Config{{a, b}, {b, a}, {a, e}, {d, h}, {h, e}, {e, h}, {h, h}, {g, d}, {f, f}} {
		out = append(out, api.Joint{Old: x[0], New: x[1], Two: true})
	}
	return out
}

// anyLog gives a log of up to so many entries, whose terms don't rise far, and which now and then sets a configuration.
func anyLog(r *rand.Rand, most int) api.Log {
	l := api.Log{Base: anyOf(r, 0, 0, 1, 5), BaseTerm: r.Intn(3), Conf: anyOf(r, joints()...)}
	term := max(l.BaseTerm, 1)
	for i := range r.Intn(most + 1) {
		term += anyOf(r, 0, 0, 0, 1)
		e := cmd(l.Base+1+i, term)
		if r.Intn(6) == 0 {
			e = set(term, anyOf(r, joints()...))
		} else if r.Intn(6) == 0 {
			e = api.Entry{Term: term}
		}
		l.Entries = append(l.Entries, e)
	}
	return l
}

// anyCore gives a valid core, of which each number lies often where something changes.
func anyCore(r *rand.Rand) api.Core {
	l := anyLog(r, anyOf(r, 0, 3, 5, 12))
	last, term := l.Base+len(l.Entries), l.BaseTerm
	if len(l.Entries) > 0 {
		term = l.Entries[len(l.Entries)-1].Term
	}
	c := api.Core{ID: anyOf(r, 1, 1, 2, 3, 4, 5, 6), Role: r.Intn(3), Vote: anyOf(r, 0, 1, 2, 3, 9), Lead: anyOf(r, 0, 1, 2, 9), Log: l, Snap: anyOf(r, "", "own")}
	c.Term = anyOf(r, term, term, term+1, term+2, top, top-1)
	c.Wait = anyOf(r, 0, 1, 7, 8, 9, 10, 11, 10+4*c.ID, 11+4*c.ID, 12+4*c.ID, top-1)
	c.Commit = l.Base + r.Intn(last-l.Base+1)
	c.Safe = anyOf(r, 0, last, r.Intn(last+1), top)
	c.Votes, c.Heard = api.Set(r.Intn(1<<16)), api.Set(r.Intn(1<<16))
	if r.Intn(2) == 0 {
		c.Votes, c.Heard = of(c.ID), 0
	}
	for n := range c.Next {
		c.Next[n] = anyOf(r, 0, r.Intn(last+1), last, last+1, last+1, last+2, 2*top)
		c.Match[n] = anyOf(r, 0, r.Intn(last+1), last)
	}
	return c
}

// anyMsg gives a message, mostly to c and of its Term or one beside it.
func anyMsg(r *rand.Rand, c api.Core) api.Msg {
	last := c.Log.Base + len(c.Log.Entries)
	m := api.Msg{Kind: 1 + r.Intn(6), From: 1 + r.Intn(9), To: c.ID, Term: anyOf(r, c.Term, c.Term, c.Term, c.Term, c.Term+1, c.Term-1), Yes: r.Intn(3) > 0}
	m.Index = anyOf(r, 0, r.Intn(last+1), r.Intn(last+1), last, last+1, last+5, c.Commit, c.Commit+1, -1, top, top+1)
	m.LogTerm = anyOf(r, 0, 1, 2, 3, c.Term, c.Term+1, -1)
	if i := m.Index - c.Log.Base - 1; r.Intn(3) > 0 && i >= 0 && i < len(c.Log.Entries) {
		m.LogTerm = c.Log.Entries[i].Term
	} else if i == -1 && r.Intn(3) > 0 {
		m.LogTerm = c.Log.BaseTerm
	}
	m.Commit = anyOf(r, 0, last, r.Intn(last+3), top, top+1, -1)
	m.Safe = anyOf(r, 0, last, r.Intn(last+3), top, top+1, -1)
	m.Snap = anyOf(r, "", "their")
	m.Conf = anyOf(r, joints()...)
	m.Entries = anyEntries(r, c, m.Index)
	switch r.Intn(30) {
	case 0:
		m.Kind = anyOf(r, -1, 0, 7, 8)
	case 1:
		m.From = anyOf(r, -1, 0, 10, c.ID)
	case 2:
		m.To = anyOf(r, 0, c.ID+1, -1)
	case 3:
		m.Term = anyOf(r, -1, 0, top, top+1)
	case 4:
		m.Conf = api.Joint{Old: api.Config{Voters: of(1), Elect: 1}}
	}
	return m
}

// anyEntries gives entries that follow a number: often some that c has, and then others.
func anyEntries(r *rand.Rand, c api.Core, prev int) []api.Entry {
	es := slices.Clone(read(c).behind(prev, r.Intn(9)))
	term := c.Term - r.Intn(3)
	if len(es) > 0 {
		term = min(es[len(es)-1].Term+r.Intn(2), c.Term)
	}
	for range anyOf(r, 0, 1, 2, 8) {
		e := cmd(prev+1+len(es), term)
		switch r.Intn(40) {
		case 0, 1, 2, 3, 4, 5:
			e = set(term, anyOf(r, joints()...))
		case 6:
			e = set(term, api.Joint{Old: api.Config{Voters: of(1), Elect: 1}})
		case 7:
			e.Conf = api.Joint{Two: true}
		case 8:
			e.Term = anyOf(r, 0, c.Term+1, term-1)
		}
		es = append(es, e)
	}
	return es
}

// TestAgainstModel holds every call against the model, for cores and messages of all kinds.
func TestAgainstModel(t *testing.T) {
	r := rand.New(rand.NewSource(13))
	for range 25000 {
		c := anyCore(r)
		if !core.May(c) {
			t.Fatalf("%+v is valid", c)
		}
		got, out := core.Tick(c)
		if want, wantOut := modelTick(c); !sameCore(got, want) || !sameMsgs(out, wantOut) {
			t.Fatalf("Tick of %+v:\n%+v\n%+v\nnot\n%+v\n%+v", c, got, out, want, wantOut)
		}
		for range 4 {
			m := anyMsg(r, c)
			got, out := core.Step(c, m)
			if want, wantOut := modelStep(c, m); !sameCore(got, want) || !sameMsgs(out, wantOut) {
				t.Fatalf("Step of %+v\nwith %+v:\n%+v\n%+v\nnot\n%+v\n%+v", c, m, got, out, want, wantOut)
			}
		}
		e := api.Entry{Term: r.Intn(3), Kind: anyOf(r, -1, 0, 1, 1, 2, 2, 2, 3), Data: "new", Conf: anyOf(r, joints()...)}
		if e.Conf.Two == (r.Intn(4) > 0) {
			e.Conf.New = e.Conf.Old
		}
		d, out, index, err := core.Propose(c, e)
		if want, wantOut, wantIndex, wantErr := modelPropose(c, e); !sameCore(d, want) || !sameMsgs(out, wantOut) || index != wantIndex || err != wantErr {
			t.Fatalf("Propose %+v to %+v:\n%+v\n%+v %d %d\nnot\n%+v\n%+v %d %d", e, c, d, out, index, err, want, wantOut, wantIndex, wantErr)
		}
	}
}
