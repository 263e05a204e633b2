package mvcc_test

import (
	"maps"
	"slices"

	"antipode/api"
)

// slip is what the words of the chapter know of a key: its versions, in no order, and its lock.
type slip struct {
	versions map[api.Stamp]api.Version
	locked   bool
	lock     api.Lock
}

// paper is cells as the words of the chapter have them: without places, so that each answer is looked for in all there is.
type paper map[string]slip

// write gives the paper of cells.
func write(c []api.Cell) paper {
	p := paper{}
	for _, cell := range c {
		s := slip{map[api.Stamp]api.Version{}, cell.Locked, cell.Lock}
		for _, v := range cell.Versions {
			s.versions[v.At] = v
		}
		p[cell.Key] = s
	}
	return p
}

// cells gives the cells of a paper, but for the keys that have nothing.
func (p paper) cells() []api.Cell {
	var c []api.Cell
	for _, key := range p.keys(everything) {
		s := p[key]
		if len(s.versions) == 0 && !s.locked {
			continue
		}
		c = append(c, api.Cell{Key: key, Versions: slices.SortedFunc(maps.Values(s.versions), order), Locked: s.locked, Lock: s.lock})
	}
	return c
}

// order is that of versions, by the numbers of their stamps.
func order(a, b api.Version) int {
	if above(b.At, a.At) {
		return -1
	}
	if above(a.At, b.At) {
		return 1
	}
	return 0
}

// above tells whether a is later than b.
func above(a, b api.Stamp) bool {
	if a.Wall == b.Wall {
		return a.Tie > b.Tie
	}
	return a.Wall > b.Wall
}

// everything is a span that has all the keys of these tests.
var everything = api.Span{Lo: "", Hi: "\xff\xff\xff\xff"}

// keys gives the keys within a span, ascending.
func (p paper) keys(s api.Span) []string {
	var l []string
	for key := range p {
		if key >= s.Lo && key < s.Hi {
			l = append(l, key)
		}
	}
	slices.Sort(l)
	return l
}

// last gives the last version that is not above at.
func (s slip) last(at api.Stamp) (last api.Version, is bool) {
	for _, v := range s.versions {
		if !above(v.At, at) && (!is || above(v.At, last.At)) {
			last, is = v, true
		}
	}
	return last, is
}

func (p paper) get(key string, at api.Stamp) (string, bool) {
	v, is := p[key].last(at)
	if !is || v.Drop {
		return "", false
	}
	return v.Data, true
}

func (p paper) blocks(s api.Span, at api.Stamp) (api.Lock, bool) {
	for _, key := range p.keys(s) {
		if p[key].locked && !above(p[key].lock.At, at) {
			return p[key].lock, true
		}
	}
	return api.Lock{}, false
}

// scan gives all pairs, however many.
func (p paper) scan(s api.Span, at api.Stamp) []api.Pair {
	var l []api.Pair
	for _, key := range p.keys(s) {
		if data, there := p.get(key, at); there {
			l = append(l, api.Pair{Key: key, Data: data})
		}
	}
	return l
}

func (p paper) put(w api.Write, l api.Lock) {
	s, is := p[w.Key]
	if !is {
		s.versions = map[api.Stamp]api.Version{}
	}
	s.locked = true
	s.lock = api.Lock{By: l.By, Home: l.Home, At: l.At, Drop: w.Drop}
	if !w.Drop {
		s.lock.Data = w.Data
	}
	p[w.Key] = s
}

func (p paper) held(key string) (api.Lock, bool) {
	if !p[key].locked {
		return api.Lock{}, false
	}
	return p[key].lock, true
}

func (p paper) mine(by api.Try) bool {
	for _, s := range p {
		if s.locked && s.lock.By == by {
			return true
		}
	}
	return false
}

func (p paper) settle(by api.Try, yes bool) {
	for key, s := range p {
		if !s.locked || s.lock.By != by {
			continue
		}
		if yes {
			s.versions[s.lock.At] = api.Version{At: s.lock.At, Drop: s.lock.Drop, Data: s.lock.Data}
		}
		p[key] = slip{versions: s.versions}
	}
}

func (p paper) trim(below api.Stamp) {
	for _, s := range p {
		last, is := s.last(below)
		maps.DeleteFunc(s.versions, func(at api.Stamp, _ api.Version) bool {
			return is && (above(last.At, at) || at == last.At && last.Drop)
		})
	}
}

// same tells whether cells are the same ones.
func same(a, b []api.Cell) bool {
	return slices.EqualFunc(a, b, func(x, y api.Cell) bool {
		return x.Key == y.Key && x.Locked == y.Locked && x.Lock == y.Lock && slices.Equal(x.Versions, y.Versions)
	})
}
