package zone_test

import (
	"cmp"
	"math"
	"slices"

	"antipode/api"
	"antipode/sets"
)

// The chapter's words over lists of nodes, and what the tests go through.

// of gives the set of the nodes.
func of(nodes ...int) api.Set {
	s, _ := sets.Of(nodes)
	return s
}

// modelMayRegions tells whether a list of regions is valid, by the chapter's definitions.
func modelMayRegions(regions []int) bool {
	stray := slices.ContainsFunc(regions, func(r int) bool { return !slices.Contains([]int{0, 1, 2, 3}, r) })
	return slices.Contains([]int{1, 2, 3, 4, 5, 6, 7, 8, 9}, len(regions)) && !stray
}

// modelMayZone tells whether z is valid, by P11.1.
func modelMayZone(z api.Zone) bool {
	counts := slices.Concat(z.Voters, z.Witnesses, z.Learners, []int{z.Elect, z.Commit})
	stray := slices.ContainsFunc(counts, func(n int) bool { return !slices.Contains([]int{0, 1, 2, 3, 4, 5, 6, 7, 8, 9}, n) })
	return max(len(z.Voters), len(z.Witnesses), len(z.Learners)) <= 4 && !stray && slices.Contains([]int{0, 1, 2}, z.Survive)
}

// filled gives a list of n elements that begins with l, and goes on with 0.
func filled(l []int, n int) []int {
	return append(slices.Clone(l), make([]int, n)...)[:n]
}

// modelAllot tells what Allot tells, by P11.1: the nodes of each region stand in line, by their loads.
func modelAllot(regions []int, z api.Zone, load []int) (api.Config, api.Errno) {
	if !modelMayRegions(regions) || !modelMayZone(z) {
		return api.Config{}, api.ErrArg
	}
	loads := filled(load, 9)
	var parts [3][]int
	for region := range 4 {
		var line []int
		for i, r := range regions {
			if r == region {
				line = append(line, i+1)
			}
		}
		slices.SortStableFunc(line, func(a, b int) int { return cmp.Compare(loads[a-1], loads[b-1]) })
		for k, counts := range [][]int{z.Voters, z.Witnesses, z.Learners} {
			n := filled(counts, 4)[region]
			if n > len(line) {
				return api.Config{}, api.ErrFull
			}
			parts[k] = append(parts[k], line[:n]...)
			line = line[n:]
		}
	}
	c := api.Config{Voters: of(parts[0]...), Witnesses: of(parts[1]...), Learners: of(parts[2]...), Elect: z.Elect, Commit: z.Commit}
	majority := 0
	for majority+majority <= len(parts[0])+len(parts[1]) {
		majority++
	}
	if c.Elect == 0 {
		c.Elect = majority
	}
	if c.Commit == 0 {
		c.Commit = majority
	}
	return c, api.OK
}

// modelLoss tells whether c survives a loss, by P11.2.
func modelLoss(c api.Config, lost func(n int) bool) bool {
	voters, voting := 0, 0
	for n := 1; n <= 9; n++ {
		if lost(n) {
			continue
		}
		if sets.Has(c.Voters, n) {
			voters++
		}
		if sets.Has(c.Voters, n) || sets.Has(c.Witnesses, n) {
			voting++
		}
	}
	return voting >= c.Elect && voting >= c.Commit && voters > 0
}

// modelSurvives tells what Survives tells, by P11.2.
func modelSurvives(regions []int, c api.Config, what int) (bool, int) {
	if !modelMayRegions(regions) {
		return false, -1
	}
	switch what {
	case 0:
		return true, -1
	case 1:
		for n := 1; n <= len(regions); n++ {
			if !modelLoss(c, func(m int) bool { return m == n }) {
				return false, n
			}
		}
		return true, -1
	case 2:
		for r := 0; r <= 3; r++ {
			if !modelLoss(c, func(m int) bool { return m <= len(regions) && regions[m-1] == r }) {
				return false, r
			}
		}
		return true, -1
	}
	return false, -1
}

// listsOf lists all lists of n of the elements.
func listsOf(n int, elements ...int) [][]int {
	out := [][]int{nil}
	for range n {
		var next [][]int
		for _, l := range out {
			for _, x := range elements {
				next = append(next, append(slices.Clone(l), x))
			}
		}
		out = next
	}
	return out
}

// zonesOf lists all zones, without sizes, that find enough nodes in the regions.
func zonesOf(regions []int) []api.Zone {
	out := []api.Zone{{}}
	for region := range 4 {
		nodes := 0
		for _, r := range regions {
			if r == region {
				nodes++
			}
		}
		var next []api.Zone
		for _, z := range out {
			for _, n := range listsOf(3, []int{0, 1, 2, 3, 4, 5, 6, 7, 8, 9}[:nodes+1]...) {
				if n[0]+n[1]+n[2] <= nodes {
					next = append(next, api.Zone{
						Voters:    append(slices.Clone(z.Voters), n[0]),
						Witnesses: append(slices.Clone(z.Witnesses), n[1]),
						Learners:  append(slices.Clone(z.Learners), n[2]),
					})
				}
			}
		}
		out = next
	}
	return out
}

// badRegions lists lists of regions that are not valid.
func badRegions() [][]int {
	l := [][]int{nil, {}, make([]int, 0, 9), make([]int, 10), make([]int, 11), make([]int, 16), make([]int, 1000), {0, 1, 2, 3, 0, 1, 2, 3, 0, 1}}
	for _, r := range append(strays(), 4, 5, 9) {
		l = append(l, []int{r}, []int{r, 0, 0}, []int{0, r, 0}, []int{0, 0, r}, []int{0, 1, 2, 3, 0, 1, 2, 3, r})
	}
	return l
}

// strays lists numbers that are too small or too great for whatever a zone counts.
func strays() []int {
	return []int{-1, -2, -4, -9, -10, 10, 11, 16, 64, 256, 1 << 16, math.MaxInt32, math.MinInt32, 1 << 32, 1<<32 + 1, -1 << 32, 1 << 62, math.MaxInt, math.MaxInt - 1, math.MinInt, math.MinInt + 1}
}
