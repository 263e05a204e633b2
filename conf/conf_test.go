package conf_test

import (
	"testing"

	"antipode/api"
	"antipode/conf"
)

// three is the configuration from which many cases start.
func three() api.Config {
	return api.Config{Voters: of(1, 2), Witnesses: of(3), Learners: of(4), Elect: 2, Commit: 2}
}

// P10.1

func TestMayCases(t *testing.T) {
	good := []api.Config{
		three(),
		{Voters: of(1, 2), Witnesses: of(3), Elect: 2, Commit: 2},
		{Voters: of(1, 2), Witnesses: of(3), Elect: 3, Commit: 1},
		{Voters: of(1), Elect: 1, Commit: 1}, {Voters: of(9), Elect: 1, Commit: 1},
		{Voters: of(9), Witnesses: of(1, 2, 3, 4, 5, 6, 7, 8), Elect: 5, Commit: 5},
		{Voters: of(1), Learners: of(2, 3, 4, 5, 6, 7, 8, 9), Elect: 1, Commit: 1},
		{Voters: of(1, 2, 3, 4, 5, 6, 7, 8, 9), Elect: 9, Commit: 1},
		{Voters: of(1, 2, 3, 4, 5, 6, 7, 8, 9), Elect: 9, Commit: 9},
		{Voters: of(1, 2, 3, 4, 5, 6, 7, 8, 9), Elect: 5, Commit: 9},
		{Voters: of(4, 5, 6), Witnesses: of(1, 2, 3), Learners: of(7, 8, 9), Elect: 4, Commit: 3},
	}
	for _, c := range good {
		if !conf.May(c) {
			t.Errorf("%+v is valid", c)
		}
	}
	bad := []api.Config{
		{},
		// No voter.
		{Elect: 1, Commit: 1}, {Witnesses: of(1), Elect: 1, Commit: 1}, {Learners: of(1), Elect: 1, Commit: 1}, {Witnesses: of(1, 2, 3), Learners: of(4), Elect: 2, Commit: 2},
		// A node in two sets, or in all three.
		{Voters: of(1, 2), Witnesses: of(2, 3), Elect: 2, Commit: 2}, {Voters: of(1, 2), Learners: of(2, 3), Elect: 2, Commit: 2}, {Voters: of(1), Witnesses: of(2, 3), Learners: of(3), Elect: 2, Commit: 2},
		{Voters: of(1), Witnesses: of(1), Elect: 1, Commit: 1}, {Voters: of(9), Learners: of(9), Elect: 1, Commit: 1}, {Voters: of(5), Witnesses: of(5), Learners: of(5), Elect: 1, Commit: 1},
		// Learners do not count.
		{Voters: of(1, 2), Learners: of(3), Elect: 3, Commit: 2}, {Voters: of(1, 2), Learners: of(3), Elect: 2, Commit: 3},
		// Elect + Commit is n, 2 Elect is n.
		{Voters: of(1, 2, 3), Elect: 2, Commit: 1}, {Voters: of(1, 2), Witnesses: of(3), Elect: 2, Commit: 1}, {Voters: of(1, 2, 3, 4), Elect: 2, Commit: 3}, {Voters: of(1, 2, 3, 4), Elect: 2, Commit: 2}, {Voters: of(1), Witnesses: of(2), Elect: 1, Commit: 2},
	}
	for _, c := range bad {
		if conf.May(c) {
			t.Errorf("%+v is not valid", c)
		}
	}
}

// Each of the three sets with bits that are no node's.
func TestMayOfOtherBits(t *testing.T) {
	for _, x := range append(others(), 0x401, 0x8001) {
		for _, set := range []func(*api.Config) *api.Set{
			func(c *api.Config) *api.Set { return &c.Voters },
			func(c *api.Config) *api.Set { return &c.Witnesses },
			func(c *api.Config) *api.Set { return &c.Learners },
		} {
			c := three()
			*set(&c) |= x
			if conf.May(c) {
				t.Errorf("%+v is not valid", c)
			}
			*set(&c) = x
			if conf.May(c) {
				t.Errorf("%+v is not valid", c)
			}
		}
	}
}

// For each number of nodes that vote: the sizes that may be are the ones that are counted up here, and no other ones.
func TestMaySizes(t *testing.T) {
	c := api.Config{Voters: of(5)}
	for n, next := range []int{2, 9, 1, 3, 7, 4, 8, 6, 0} {
		for elect := -1; elect <= 11; elect++ {
			for commit := -1; commit <= 11; commit++ {
				c.Elect, c.Commit = elect, commit
				most := n + 1
				want := elect > most/2 && elect <= most && commit > most-elect && commit <= most
				if conf.May(c) != want {
					t.Errorf("May of %+v is not %v", c, want)
				}
			}
		}
		if next%2 == 0 {
			c.Witnesses |= of(next)
		} else {
			c.Voters |= of(next)
		}
	}
}

func TestMayFarSizes(t *testing.T) {
	for _, far := range farSizes() {
		for _, near := range append(farSizes(), 0, 1, 2, 3, 4, 9) {
			for _, c := range []api.Config{three(), {Voters: of(1)}, {Voters: of(1, 2, 3, 4, 5, 6, 7, 8, 9)}} {
				c.Elect, c.Commit = far, near
				if conf.May(c) {
					t.Errorf("%+v is not valid", c)
				}
				c.Elect, c.Commit = near, far
				if conf.May(c) {
					t.Errorf("%+v is not valid", c)
				}
			}
		}
	}
}

// All configurations of few nodes, of which each may be in none, in one, in two and in all of the sets.
func TestMayOfAll(t *testing.T) {
	sizes := []int{0, 1, 2, 3, 4, -1}
	found := 0
	for _, c := range casts([]int{1, 5, 9}, []int{0, 1, 2, 3, 4, 5, 6, 7}) {
		for _, c.Elect = range sizes {
			for _, c.Commit = range sizes {
				want := modelMay(c)
				if conf.May(c) != want {
					t.Fatalf("May of %+v is not %v", c, want)
				}
				if want {
					found++
				}
			}
		}
	}
	// Of one node that votes 1 by 12, of two 2 by 18, of three 5 by 7.
	if found != 83 {
		t.Errorf("%d are valid", found)
	}
}

func TestMayJointCases(t *testing.T) {
	ok, next := three(), api.Config{Voters: of(1, 2, 4), Witnesses: of(3), Elect: 3, Commit: 2}
	bad := ok
	bad.Elect = 1
	cases := []struct {
		j    api.Joint
		want bool
	}{
		{api.Joint{}, false}, {api.Joint{Two: true}, false},
		{api.Joint{Old: ok}, true}, {api.Joint{Old: ok, Two: true}, false},
		{api.Joint{Old: ok, New: next}, false}, {api.Joint{Old: ok, New: ok}, false},
		{api.Joint{Old: ok, New: next, Two: true}, true}, {api.Joint{Old: ok, New: ok, Two: true}, true}, {api.Joint{Old: next, New: ok, Two: true}, true},
		// The two need have nothing in common.
		{api.Joint{Old: ok, New: api.Config{Voters: of(9), Elect: 1, Commit: 1}, Two: true}, true},
		{api.Joint{Old: bad}, false}, {api.Joint{Old: bad, New: ok}, false}, {api.Joint{New: ok, Two: true}, false}, {api.Joint{New: ok}, false},
		{api.Joint{Old: bad, New: ok, Two: true}, false}, {api.Joint{Old: ok, New: bad, Two: true}, false}, {api.Joint{Old: bad, New: bad, Two: true}, false},
		{api.Joint{Old: ok, New: bad}, false},
	}
	for _, c := range cases {
		if conf.MayJoint(c.j) != c.want {
			t.Errorf("MayJoint of %+v is not %v", c.j, c.want)
		}
	}
}

// With Two not set, New is zero only if all of its fields are.
func TestMayJointNewZero(t *testing.T) {
	for _, n := range []api.Config{{Voters: 2}, {Witnesses: 2}, {Learners: 2}, {Elect: 1}, {Commit: 1}, {Elect: -1}, {Commit: -1}, {Voters: 1}, {Learners: 0x8000}} {
		if conf.MayJoint(api.Joint{Old: three(), New: n}) {
			t.Errorf("three with the New %+v is not valid", n)
		}
	}
}

func TestMayJointOfAll(t *testing.T) {
	l := valid(2, 9)
	for _, c := range valid(2, 9) {
		d := c
		d.Elect--
		l = append(l, d)
		d = c
		d.Learners |= of(1)
		l = append(l, d)
		d.Voters |= of(1)
		l = append(l, d)
	}
	l = append(l, api.Config{})
	for _, a := range l {
		for _, b := range l {
			for _, j := range []api.Joint{two(a, b), {Old: a, New: b}} {
				if want := modelMayJoint(j); conf.MayJoint(j) != want {
					t.Fatalf("MayJoint of %+v is not %v", j, want)
				}
			}
		}
	}
}

// P10.2

func TestSetsCases(t *testing.T) {
	next := api.Config{Voters: of(4, 5), Witnesses: of(6), Learners: of(1, 9), Elect: 2, Commit: 2}
	cases := []struct {
		j                     api.Joint
		members, voting, data api.Set
		leads                 []int
	}{
		{one(three()), of(1, 2, 3, 4), of(1, 2, 3), of(1, 2, 4), []int{1, 2}},
		{one(next), of(1, 4, 5, 6, 9), of(4, 5, 6), of(1, 4, 5, 9), []int{4, 5}},
		{two(three(), next), of(1, 2, 3, 4, 5, 6, 9), of(1, 2, 3, 4, 5, 6), of(1, 2, 4, 5, 9), []int{1, 2, 4, 5}},
		{two(next, three()), of(1, 2, 3, 4, 5, 6, 9), of(1, 2, 3, 4, 5, 6), of(1, 2, 4, 5, 9), []int{1, 2, 4, 5}},
		{two(next, next), of(1, 4, 5, 6, 9), of(4, 5, 6), of(1, 4, 5, 9), []int{4, 5}},
		{one(api.Config{Voters: of(9), Elect: 1, Commit: 1}), of(9), of(9), of(9), []int{9}},
		{one(api.Config{Voters: of(1, 2, 3, 4, 5, 6, 7, 8, 9), Elect: 5, Commit: 5}), 0x3fe, 0x3fe, 0x3fe, []int{1, 2, 3, 4, 5, 6, 7, 8, 9}},
	}
	for _, c := range cases {
		if m, v, d := conf.Members(c.j), conf.Voting(c.j), conf.Data(c.j); m != c.members || v != c.voting || d != c.data {
			t.Errorf("%+v: Members %#x, Voting %#x, Data %#x", c.j, m, v, d)
		}
		for n := -20; n <= 40; n++ {
			if want := in(of(c.leads...), n); conf.Leads(c.j, n) != want {
				t.Errorf("%+v: Leads of %d is not %v", c.j, n, want)
			}
		}
		for _, n := range strays() {
			if conf.Leads(c.j, n) {
				t.Errorf("%+v: %d leads", c.j, n)
			}
		}
	}
}

func TestSetsOfAll(t *testing.T) {
	l := valid(1, 5, 9)
	for _, a := range l {
		for _, b := range l {
			// New belongs to the joint only if Two is set.
			for _, j := range []api.Joint{one(a), two(a, b), {Old: a, New: b}} {
				members, voting, data, voters := modelSets(j)
				if m, v, d := conf.Members(j), conf.Voting(j), conf.Data(j); m != members || v != voting || d != data {
					t.Fatalf("%+v: Members %#x, Voting %#x, Data %#x", j, m, v, d)
				}
				for n := -1; n <= 17; n++ {
					if want := in(voters, n); conf.Leads(j, n) != want {
						t.Fatalf("%+v: Leads of %d is not %v", j, n, want)
					}
				}
			}
		}
	}
}

func TestElectsCommitsCases(t *testing.T) {
	// Three of five elect, and three commit, of whom one is 1 or 2.
	five := api.Config{Voters: of(1, 2), Witnesses: of(3, 4, 5), Learners: of(6), Elect: 3, Commit: 3}
	// All four elect, and one commits.
	lone := api.Config{Voters: of(7), Witnesses: of(1, 8, 9), Learners: of(2), Elect: 4, Commit: 1}
	cases := []struct {
		j               api.Joint
		got             api.Set
		elects, commits bool
	}{
		{one(five), 0, false, false}, {one(five), of(1, 2), false, false}, {one(five), of(1, 2, 6), false, false}, {one(five), of(1, 2, 7, 8, 9), false, false},
		{one(five), of(1, 2, 3), true, true}, {one(five), of(2, 4, 5), true, true}, {one(five), of(3, 4, 5), true, false}, {one(five), of(3, 4, 5, 6), true, false},
		{one(five), of(1, 2, 3, 4, 5), true, true}, {one(five), of(1, 2, 3, 4, 5, 6, 7, 8, 9), true, true}, {one(five), 0xffff, true, true},
		{one(five), 0xfc01 | of(1, 2), false, false}, {one(five), 0xfc01 | of(3, 4, 5), true, false}, {one(five), 0xfc01, false, false}, {one(five), 1 | of(1, 2, 3), true, true},
		{one(lone), of(7), false, true}, {one(lone), of(1), false, false}, {one(lone), of(1, 8, 9), false, false}, {one(lone), of(1, 7, 8), false, true}, {one(lone), of(1, 7, 8, 9), true, true},
		{one(lone), of(2), false, false}, {one(lone), of(2, 7), false, true}, {one(lone), 0xfc01, false, false}, {one(lone), 0xfc01 | of(7), false, true}, {one(lone), 0xfc01 | of(1, 8, 9), false, false},
		// Both must agree.
		{two(five, lone), of(1, 2, 3), false, false}, {two(five, lone), of(1, 7, 8, 9), false, false}, {two(five, lone), of(7), false, false},
		{two(five, lone), of(1, 2, 3, 7), false, true}, {two(five, lone), of(1, 3, 4, 7), false, true}, {two(five, lone), of(3, 4, 5, 7), false, false},
		{two(five, lone), of(1, 3, 4, 7, 8), false, true}, {two(five, lone), of(1, 3, 7, 8, 9), false, false}, {two(five, lone), of(1, 3, 4, 7, 8, 9), true, true},
		{two(five, lone), of(1, 3, 4, 8, 9), false, false}, {two(five, lone), of(1, 2, 3, 4, 5, 6), false, false}, {two(five, lone), 0xffff, true, true}, {two(five, lone), 0, false, false}, {two(five, lone), 0xfc01, false, false},
	}
	for _, c := range cases {
		if e := conf.Elects(c.j, c.got); e != c.elects {
			t.Errorf("%+v: Elects by %#x: %v", c.j, c.got, e)
		}
		if e := conf.Commits(c.j, c.got); e != c.commits {
			t.Errorf("%+v: Commits by %#x: %v", c.j, c.got, e)
		}
		if !c.j.Two {
			continue
		}
		turned := two(c.j.New, c.j.Old)
		if conf.Elects(turned, c.got) != c.elects || conf.Commits(turned, c.got) != c.commits {
			t.Errorf("%+v: %#x elects or commits, but not the other way round", c.j, c.got)
		}
	}
}

// Of all nine: just enough of them, and one too few.
func TestElectsCommitsByCount(t *testing.T) {
	for elect := 5; elect <= 9; elect++ {
		for commit := 10 - elect; commit <= 9; commit++ {
			for voters := 1; voters <= 9; voters++ {
				c := api.Config{Elect: elect, Commit: commit}
				// Where the voters are the last ones, the first ones commit nothing.
				for n := 1; n <= 9; n++ {
					if n > 9-voters {
						c.Voters |= of(n)
					} else {
						c.Witnesses |= of(n)
					}
				}
				var first api.Set
				for n := 0; n <= 9; n++ {
					if n > 0 {
						first |= of(n)
					}
					wantE, wantC := n >= elect, n >= commit && n > 9-voters
					if conf.Elects(one(c), first) != wantE || conf.Commits(one(c), first) != wantC {
						t.Fatalf("%+v by the first %d", c, n)
					}
				}
			}
		}
	}
}

// Sets with bits that are no node's, and with nodes of no configuration.
func TestElectsCommitsOfAllSets(t *testing.T) {
	a := api.Config{Voters: of(1, 4), Witnesses: of(9), Learners: of(2), Elect: 2, Commit: 2}
	b := api.Config{Voters: of(4, 2), Witnesses: of(9, 7), Learners: of(1), Elect: 3, Commit: 2}
	for _, j := range []api.Joint{one(a), one(b), two(a, b), {Old: a, New: b}} {
		elects, commits := map[api.Set]bool{}, map[api.Set]bool{}
		for got := api.Set(0); got < 1024; got += 2 {
			elects[got], commits[got] = true, true
			for _, c := range configsOf(j) {
				elects[got] = elects[got] && modelElects(c, got)
				commits[got] = commits[got] && modelCommits(c, got)
			}
		}
		for u := range 1 << 16 {
			got := api.Set(u)
			if e, c := conf.Elects(j, got), conf.Commits(j, got); e != elects[got&0x3fe] || c != commits[got&0x3fe] {
				t.Fatalf("%+v by %#x: Elects %v, Commits %v", j, got, e, c)
			}
		}
	}
}

// With Two not set, New has no say.
func TestElectsCommitsOfOldAlone(t *testing.T) {
	j := api.Joint{Old: three(), New: api.Config{Voters: of(7, 8), Elect: 2, Commit: 2}}
	if !conf.Elects(j, of(1, 3)) || !conf.Commits(j, of(1, 3)) || conf.Elects(j, of(1, 7, 8)) || conf.Commits(j, of(1, 7, 8)) {
		t.Error("New has a say")
	}
}

// P10.3

func TestMeetCases(t *testing.T) {
	of3 := func(elect, commit int, nodes ...int) api.Config {
		return api.Config{Voters: of(nodes...), Elect: elect, Commit: commit}
	}
	cases := []struct {
		a, b api.Config
		want bool
	}{
		// The same nodes: with the sizes n and n + 1 together.
		{of3(2, 3, 1, 2, 3), of3(3, 1, 1, 2, 3), false}, {of3(2, 3, 1, 2, 3), of3(2, 2, 1, 2, 3), true}, {of3(3, 1, 1, 2, 3), of3(3, 1, 1, 2, 3), true},
		{of3(9, 1, 1, 2, 3, 4, 5, 6, 7, 8, 9), of3(9, 1, 1, 2, 3, 4, 5, 6, 7, 8, 9), true}, {of3(8, 2, 1, 2, 3, 4, 5, 6, 7, 8, 9), of3(9, 1, 1, 2, 3, 4, 5, 6, 7, 8, 9), false},
		// Some of them.
		{of3(2, 2, 1, 2, 3), of3(2, 2, 2, 3, 4), false}, {of3(2, 2, 1, 2, 3), of3(2, 3, 2, 3, 4), true}, {of3(3, 1, 1, 2, 3), of3(2, 2, 2, 3, 4), true}, {of3(3, 1, 1, 2, 3), of3(3, 1, 2, 3, 4), false},
		{of3(2, 2, 1, 2, 3), of3(2, 2, 3, 4), false}, {of3(3, 2, 1, 2, 3), of3(2, 2, 3, 4), true}, {of3(3, 2, 1, 2, 3), of3(2, 1, 3, 4), false}, {of3(2, 2, 1, 2, 3), of3(3, 3, 3, 4, 5), false}, {of3(3, 3, 1, 2, 3), of3(3, 3, 3, 4, 5), true},
		{of3(3, 2, 1, 2, 3), of3(1, 1, 1), true}, {of3(2, 2, 1, 2, 3), of3(1, 1, 1), false}, {of3(1, 1, 1), of3(3, 1, 1, 2, 3), false}, {of3(1, 1, 1), of3(2, 3, 1, 2, 3), true},
		// None.
		{of3(1, 1, 1), of3(1, 1, 2), false}, {of3(3, 3, 1, 2, 3), of3(3, 3, 4, 5, 6), false}, {of3(1, 1, 1), of3(8, 8, 2, 3, 4, 5, 6, 7, 8, 9), false},
		// Witnesses count as voters do, learners do not; nor need there be a voter.
		{three(), three(), true},
		{api.Config{Voters: of(1), Witnesses: of(2, 3), Elect: 2, Commit: 2}, api.Config{Voters: of(2), Witnesses: of(1, 3), Elect: 2, Commit: 2}, true},
		{api.Config{Voters: of(1), Witnesses: of(2, 3), Elect: 2, Commit: 2}, api.Config{Voters: of(1), Witnesses: of(2, 3), Elect: 3, Commit: 1}, false},
		{api.Config{Voters: of(1), Learners: of(2), Elect: 1, Commit: 1}, api.Config{Voters: of(2), Learners: of(1), Elect: 1, Commit: 1}, false},
		{api.Config{Voters: of(1, 2), Learners: of(3), Elect: 2, Commit: 2}, api.Config{Voters: of(1, 2), Learners: of(3), Elect: 2, Commit: 1}, true},
	}
	for _, c := range cases {
		if m := conf.Meet(c.a, c.b); m != c.want {
			t.Errorf("Meet of %+v and %+v: %v", c.a, c.b, m)
		}
	}
}

func TestMeetOfAll(t *testing.T) {
	for _, l := range [][]api.Config{valid(1, 5, 9), valid(2, 3, 8)} {
		for _, a := range valid(1, 5, 9) {
			for _, b := range l {
				if m := conf.Meet(a, b); m != modelMeet(a, b) {
					t.Fatalf("Meet of %+v and %+v: %v", a, b, m)
				}
			}
		}
	}
}

// lined gives a configuration of the nodes from first on, up to last, whose kinds vary with the numbers.
func lined(first, last, elect, commit int) api.Config {
	c := api.Config{Voters: of(first), Elect: elect, Commit: commit}
	for n := first + 1; n <= last; n++ {
		if (n+first)%3 == 0 {
			c.Voters |= of(n)
		} else {
			c.Witnesses |= of(n)
		}
	}
	return c
}

// Two runs of nodes, which share all, some and none of them, with all sizes that may be.
func TestMeetOfRuns(t *testing.T) {
	for a := 1; a <= 9; a++ {
		for first := 1; first <= a+1 && first <= 9; first++ {
			for last := first; last <= 9; last++ {
				for elect := a/2 + 1; elect <= a; elect++ {
					for commit := 1; commit <= last-first+1; commit++ {
						x, y := lined(1, a, elect, a), lined(first, last, last-first+1, commit)
						// With what is not shared gone, the shared nodes have no room for both.
						shared := max(0, min(a, last)-first+1)
						left, right := max(0, elect-(a-shared)), max(0, commit-(last-first+1-shared))
						if m := conf.Meet(x, y); m != (left+right > shared) {
							t.Fatalf("Meet of %+v and %+v: %v", x, y, m)
						}
						if conf.Meet(x, y) != modelMeet(x, y) {
							t.Fatalf("Meet of %+v and %+v is not as all quorums tell", x, y)
						}
					}
				}
			}
		}
	}
}

// P10.4

func TestChangeCases(t *testing.T) {
	old := three()
	cases := []struct {
		name string
		j    api.Joint
		to   api.Config
		want api.Errno
	}{
		{"itself", one(old), old, api.OK},
		{"other sizes", one(old), api.Config{Voters: of(1, 2), Witnesses: of(3), Elect: 3, Commit: 1}, api.OK},
		{"a learner becomes a voter", one(old), api.Config{Voters: of(1, 4), Witnesses: of(3), Elect: 2, Commit: 2}, api.OK},
		{"the learner alone becomes a voter", one(old), api.Config{Voters: of(4), Witnesses: of(3), Elect: 2, Commit: 1}, api.OK},
		{"a voter becomes a learner", one(old), api.Config{Voters: of(2), Witnesses: of(3), Learners: of(1), Elect: 2, Commit: 2}, api.OK},
		{"new learners", one(old), api.Config{Voters: of(1, 2, 4), Witnesses: of(3), Learners: of(5, 9), Elect: 3, Commit: 2}, api.OK},
		{"two set", two(old, old), old, api.ErrState},
		{"two set, and not valid", two(old, old), api.Config{}, api.ErrState},
		{"two set, and other witnesses", two(old, old), api.Config{Voters: of(1), Elect: 1, Commit: 1}, api.ErrState},
		{"the zero configuration", one(old), api.Config{}, api.ErrQuorum},
		{"no room for quorums", one(old), api.Config{Voters: of(1, 2), Witnesses: of(3), Elect: 2, Commit: 1}, api.ErrQuorum},
		{"Elect too small", one(old), api.Config{Voters: of(1, 2, 4), Witnesses: of(3), Elect: 2, Commit: 3}, api.ErrQuorum},
		{"no voter", one(old), api.Config{Witnesses: of(3), Elect: 1, Commit: 1}, api.ErrQuorum},
		{"no voter, other witnesses", one(old), api.Config{Witnesses: of(4), Elect: 1, Commit: 1}, api.ErrQuorum},
		{"not valid, a new voter", one(old), api.Config{Voters: of(1, 5), Witnesses: of(3), Elect: 1, Commit: 3}, api.ErrQuorum},
		{"not valid, other witnesses", one(old), api.Config{Voters: of(1), Witnesses: of(2), Elect: 1, Commit: 1}, api.ErrQuorum},
		{"other bits", one(old), api.Config{Voters: 1 | of(1, 2), Witnesses: of(3), Elect: 2, Commit: 2}, api.ErrQuorum},
		{"no witness", one(old), api.Config{Voters: of(1, 2), Elect: 2, Commit: 2}, api.ErrState},
		{"one more witness", one(old), api.Config{Voters: of(1, 2), Witnesses: of(3, 9), Elect: 3, Commit: 2}, api.ErrState},
		{"another witness", one(old), api.Config{Voters: of(1, 2), Witnesses: of(5), Elect: 2, Commit: 2}, api.ErrState},
		{"the witness becomes a learner", one(old), api.Config{Voters: of(1, 2), Learners: of(3), Elect: 2, Commit: 2}, api.ErrState},
		{"the witness becomes a voter", one(old), api.Config{Voters: of(1, 3), Elect: 2, Commit: 2}, api.ErrState},
		{"a voter becomes a witness", one(old), api.Config{Voters: of(1), Witnesses: of(2, 3), Elect: 2, Commit: 2}, api.ErrState},
		{"a new voter", one(old), api.Config{Voters: of(1, 5), Witnesses: of(3), Elect: 2, Commit: 2}, api.ErrState},
		{"a new voter beside all", one(old), api.Config{Voters: of(1, 2, 4, 9), Witnesses: of(3), Elect: 3, Commit: 3}, api.ErrState},
		{"a new voter alone", one(api.Config{Voters: of(1), Elect: 1, Commit: 1}), api.Config{Voters: of(2), Elect: 1, Commit: 1}, api.ErrState},
		{"the witness is the new voter", one(api.Config{Voters: of(1), Witnesses: of(2), Elect: 2, Commit: 1}), api.Config{Voters: of(1, 2), Elect: 2, Commit: 1}, api.ErrState},
	}
	for _, c := range cases {
		want := api.Joint{}
		if c.want == api.OK {
			want = api.Joint{Old: old, New: c.to, Two: true}
		}
		if j, e := conf.Change(c.j, c.to); j != want || e != c.want {
			t.Errorf("%s: %+v %d", c.name, j, e)
		}
	}
}

func TestChangeOfAll(t *testing.T) {
	l := valid(1, 5, 9)
	to := append([]api.Config{{}}, l...)
	// Those that are not valid: wrong sizes, no voter, a node in two sets.
	for _, c := range casts([]int{1, 5, 9}, []int{0, 1, 2, 3, 4}) {
		c.Elect, c.Commit = 2, 1
		to = append(to, c)
	}
	for _, a := range l {
		for _, b := range to {
			for _, j := range []api.Joint{one(a), two(a, l[0]), two(l[0], a)} {
				want, code := modelChange(j, b)
				if got, e := conf.Change(j, b); got != want || e != code {
					t.Fatalf("Change of %+v to %+v: %+v %d", j, b, got, e)
				}
			}
		}
	}
}

func TestFinal(t *testing.T) {
	l := append(valid(1, 5, 9), three())
	for _, a := range l {
		if f := conf.Final(one(a)); f != one(a) {
			t.Errorf("Final of %+v alone: %+v", a, f)
		}
		for _, b := range l {
			if f := conf.Final(two(a, b)); f != one(b) || !conf.MayJoint(f) || conf.Final(f) != f {
				t.Fatalf("Final of %+v: %+v", two(a, b), f)
			}
			// With Two not set it is the joint itself, whatever its New.
			if j := (api.Joint{Old: a, New: b}); conf.Final(j) != j {
				t.Fatalf("Final of %+v: %+v", j, conf.Final(j))
			}
		}
	}
}

// What follows

// meets tells whether each set by which x elects has a node in common with each one by which y commits.
func meets(x, y api.Joint, got []api.Set) bool {
	for _, e := range got {
		if !conf.Elects(x, e) {
			continue
		}
		for _, c := range got {
			if e&c == 0 && conf.Commits(y, c) {
				return false
			}
		}
	}
	return true
}

func TestWithinConfigurations(t *testing.T) {
	got := subsetsOf(1, 4, 8, 9)
	for _, c := range valid(1, 4, 8, 9) {
		if !conf.Meet(c, c) || !meets(one(c), one(c), got) {
			t.Errorf("%+v: quorums that do not meet", c)
		}
	}
	for n := 1; n <= 9; n++ {
		for elect := n/2 + 1; elect <= n; elect++ {
			for commit := n + 1 - elect; commit <= n; commit++ {
				if c := lined(10-n, 9, elect, commit); !conf.May(c) || !conf.Meet(c, c) {
					t.Errorf("%+v: quorums that do not meet", c)
				}
			}
		}
	}
}

// Before a change, while it goes on and behind it, whatever elects meets whatever commits, up to one step away.
func TestAlongChanges(t *testing.T) {
	got := subsetsOf(2, 5, 9, 1)
	l := valid(2, 5, 9, 1)
	changes := 0
	for _, a := range l {
		for _, b := range l {
			j, e := conf.Change(one(a), b)
			if e != api.OK {
				continue
			}
			changes++
			if !conf.MayJoint(j) || !conf.MayJoint(conf.Final(j)) {
				t.Fatalf("the change from %+v to %+v is not valid", a, b)
			}
			for _, pair := range [][2]api.Joint{{j, j}, {one(a), j}, {j, one(a)}, {j, conf.Final(j)}, {conf.Final(j), j}} {
				if !meets(pair[0], pair[1], got) {
					t.Fatalf("%+v elects past what %+v commits", pair[0], pair[1])
				}
			}
		}
	}
	if changes < 10000 {
		t.Errorf("%d changes are few", changes)
	}
}

// R1: whatever the arguments are, no call panics; R4: it tells the same again.
func TestNoArgumentsPanic(t *testing.T) {
	var l []api.Config
	for i, s := range []api.Set{0, 1, 2, 3, 0x3fe, 0x3ff, 0xfc00, 0x8000, 0xffff} {
		for k, q := range farSizes() {
			l = append(l, api.Config{Voters: s, Witnesses: s >> (i % 3), Learners: s << (k % 4), Elect: q, Commit: farSizes()[len(farSizes())-1-k]})
			l = append(l, api.Config{Voters: s, Elect: i, Commit: q})
		}
	}
	type told struct {
		may, leads, elects, commits, meet bool
		members, voting, data             api.Set
		change, final                     api.Joint
		e                                 api.Errno
	}
	tell := func(j api.Joint, got api.Set, n int) told {
		change, e := conf.Change(j, j.New)
		return told{conf.MayJoint(j), conf.Leads(j, n), conf.Elects(j, got), conf.Commits(j, got), conf.Meet(j.Old, j.New), conf.Members(j), conf.Voting(j), conf.Data(j), change, conf.Final(j), e}
	}
	for i, a := range l {
		for k, b := range l {
			j := api.Joint{Old: a, New: b, Two: (i+k)%2 == 0}
			got, n := a.Voters^b.Learners, b.Elect
			first := tell(j, got, n)
			if first.may || first.e == api.OK || first.change != (api.Joint{}) || first != tell(j, got, n) {
				t.Fatalf("%+v: %+v", j, first)
			}
		}
	}
}
