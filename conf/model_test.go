package conf_test

import (
	"math"
	"slices"

	"antipode/api"
)

// The chapter's words over lists of nodes, and what the tests go through.

// of gives the set of the nodes, of which none may be there twice.
func of(nodes ...int) api.Set {
	powers := []int{0, 2, 4, 8, 16, 32, 64, 128, 256, 512}
	s := 0
	for _, n := range nodes {
		s += powers[n]
	}
	return api.Set(s)
}

// nodesOf lists the nodes of s, rising, by division.
func nodesOf(s api.Set) []int {
	var l []int
	rest := int(s) / 2
	for n := 1; n <= api.MaxNodes; n++ {
		if rest%2 == 1 {
			l = append(l, n)
		}
		rest /= 2
	}
	return l
}

// in tells whether the node n is in s; no number outside is.
func in(s api.Set, n int) bool {
	return slices.Contains(nodesOf(s), n)
}

// nodesWhere lists the nodes for which is tells true, rising.
func nodesWhere(is func(n int) bool) []int {
	var l []int
	for n := 1; n <= api.MaxNodes; n++ {
		if is(n) {
			l = append(l, n)
		}
	}
	return l
}

// votersOf lists those of c with a vote.
func votersOf(c api.Config) []int {
	return nodesWhere(func(n int) bool { return in(c.Voters, n) || in(c.Witnesses, n) })
}

// modelMay tells whether c is valid, by P10.1.
func modelMay(c api.Config) bool {
	for _, s := range []api.Set{c.Voters, c.Witnesses, c.Learners} {
		if of(nodesOf(s)...) != s {
			return false
		}
	}
	twice := nodesWhere(func(n int) bool {
		return in(c.Voters, n) && in(c.Witnesses, n) || in(c.Voters, n) && in(c.Learners, n) || in(c.Witnesses, n) && in(c.Learners, n)
	})
	if len(twice) > 0 || len(nodesOf(c.Voters)) == 0 {
		return false
	}
	n := len(votersOf(c))
	for elect := 1; elect <= n; elect++ {
		for commit := 1; commit <= n; commit++ {
			if c.Elect == elect && c.Commit == commit {
				return elect+commit > n && elect+elect > n
			}
		}
	}
	return false
}

// configsOf lists the configurations of j.
func configsOf(j api.Joint) []api.Config {
	if j.Two {
		return []api.Config{j.Old, j.New}
	}
	return []api.Config{j.Old}
}

// modelMayJoint tells whether j is valid, by P10.1.
func modelMayJoint(j api.Joint) bool {
	for _, c := range configsOf(j) {
		if !modelMay(c) {
			return false
		}
	}
	n := j.New
	return j.Two || n.Voters == 0 && n.Witnesses == 0 && n.Learners == 0 && n.Elect == 0 && n.Commit == 0
}

// modelSets gives the sets that Members, Voting and Data tell, and the voters, by P10.2.
func modelSets(j api.Joint) (members, voting, data, voters api.Set) {
	where := func(sets func(c api.Config) []api.Set) api.Set {
		return of(nodesWhere(func(n int) bool {
			for _, c := range configsOf(j) {
				for _, s := range sets(c) {
					if in(s, n) {
						return true
					}
				}
			}
			return false
		})...)
	}
	members = where(func(c api.Config) []api.Set { return []api.Set{c.Voters, c.Witnesses, c.Learners} })
	voting = where(func(c api.Config) []api.Set { return []api.Set{c.Voters, c.Witnesses} })
	data = where(func(c api.Config) []api.Set { return []api.Set{c.Voters, c.Learners} })
	voters = where(func(c api.Config) []api.Set { return []api.Set{c.Voters} })
	return
}

// modelElects and modelCommits tell of one configuration what Elects and Commits tell, by P10.2.
func modelElects(c api.Config, got api.Set) bool {
	return len(slices.DeleteFunc(votersOf(c), func(n int) bool { return !in(got, n) })) >= c.Elect
}

func modelCommits(c api.Config, got api.Set) bool {
	count := len(slices.DeleteFunc(votersOf(c), func(n int) bool { return !in(got, n) }))
	voter := slices.ContainsFunc(nodesOf(got), func(n int) bool { return in(c.Voters, n) })
	return count >= c.Commit && voter
}

// quorums lists all sets of just q of those with a vote in c.
func quorums(c api.Config, q int) []api.Set {
	out := []api.Set{0}
	for _, n := range votersOf(c) {
		for _, s := range slices.Clone(out) {
			out = append(out, s+of(n))
		}
	}
	return slices.DeleteFunc(out, func(s api.Set) bool { return len(nodesOf(s)) != q })
}

// modelMeet holds each quorum of a against each one of b, by P10.3.
func modelMeet(a, b api.Config) bool {
	commits := quorums(b, b.Commit)
	for _, x := range quorums(a, a.Elect) {
		for _, y := range commits {
			if x&y == 0 {
				return false
			}
		}
	}
	return true
}

// modelChange tells what Change tells, by P10.4.
func modelChange(j api.Joint, to api.Config) (api.Joint, api.Errno) {
	switch {
	case j.Two:
		return api.Joint{}, api.ErrState
	case !modelMay(to):
		return api.Joint{}, api.ErrQuorum
	case !slices.Equal(nodesOf(to.Witnesses), nodesOf(j.Old.Witnesses)):
		return api.Joint{}, api.ErrState
	}
	for _, n := range nodesOf(to.Voters) {
		if !in(j.Old.Voters, n) && !in(j.Old.Learners, n) {
			return api.Joint{}, api.ErrState
		}
	}
	j.New, j.Two = to, true
	return j, api.OK
}

// casts lists configurations without sizes in which each of the nodes has each of the parts: 1 a voter, 2 a witness, 4 a learner, and sums of these; 0 none.
func casts(nodes []int, parts []int) []api.Config {
	out := []api.Config{{}}
	for _, n := range nodes {
		var next []api.Config
		for _, c := range out {
			for _, p := range parts {
				d := c
				if p&1 != 0 {
					d.Voters += of(n)
				}
				if p&2 != 0 {
					d.Witnesses += of(n)
				}
				if p&4 != 0 {
					d.Learners += of(n)
				}
				next = append(next, d)
			}
		}
		out = next
	}
	return out
}

// valid lists all configurations of the nodes that are valid.
func valid(nodes ...int) []api.Config {
	var out []api.Config
	for _, c := range casts(nodes, []int{0, 1, 2, 4}) {
		for elect := 1; elect <= len(nodes); elect++ {
			for commit := 1; commit <= len(nodes); commit++ {
				c.Elect, c.Commit = elect, commit
				if modelMay(c) {
					out = append(out, c)
				}
			}
		}
	}
	return out
}

// subsetsOf lists all sets of the nodes.
func subsetsOf(nodes ...int) []api.Set {
	out := []api.Set{0}
	for _, n := range nodes {
		for _, s := range slices.Clone(out) {
			out = append(out, s+of(n))
		}
	}
	return out
}

// one gives the joint of c alone.
func one(c api.Config) api.Joint {
	return api.Joint{Old: c}
}

// two gives the joint of both.
func two(a, b api.Config) api.Joint {
	return api.Joint{Old: a, New: b, Two: true}
}

// others lists bits that are no node's.
func others() []api.Set {
	return []api.Set{1, 1 << 10, 1 << 11, 1 << 15, 0xfc00, 0xfc01}
}

// farSizes lists sizes that no quorum has: they are negative, greater than all nodes, or such that their sum or their double wraps round.
func farSizes() []int {
	return []int{-1, -2, -9, -10, 10, 11, math.MaxInt32, math.MinInt32, 1 << 32, 1<<32 + 2, -1 << 32, 1<<62 - 1, 1 << 62, 1<<62 + 2, -1 << 62, -1<<62 + 2, math.MaxInt, math.MaxInt - 1, math.MinInt, math.MinInt + 1, math.MinInt + 2}
}

// strays lists numbers that are no nodes.
func strays() []int {
	return []int{0, -1, -2, -9, -10, 10, 11, 15, 16, 17, 31, 32, 33, 63, 64, 65, 1 << 8, 1<<8 + 1, 1 << 16, 1<<16 + 1, 1 << 32, 1<<32 + 1, -1 << 32, math.MaxInt32, math.MinInt32, math.MaxInt, math.MinInt, math.MinInt + 1}
}
