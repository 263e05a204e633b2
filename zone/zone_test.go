package zone_test

import (
	"math"
	"math/rand"
	"slices"
	"testing"

	"antipode/api"
	"antipode/conf"
	"antipode/zone"
)

// five are the regions of the chapter's example.
func five() []int {
	return []int{0, 0, 1, 1, 2}
}

// example is the zone of the chapter's example.
func example() api.Zone {
	return api.Zone{Voters: []int{1, 1, 0}, Witnesses: []int{0, 0, 1}, Survive: 2}
}

// kinds are the three lists of a zone, and the three sets of a configuration, in their order.
var kinds = []struct {
	name string
	list func(z *api.Zone) *[]int
	set  func(c api.Config) api.Set
}{
	{"voters", func(z *api.Zone) *[]int { return &z.Voters }, func(c api.Config) api.Set { return c.Voters }},
	{"witnesses", func(z *api.Zone) *[]int { return &z.Witnesses }, func(c api.Config) api.Set { return c.Witnesses }},
	{"learners", func(z *api.Zone) *[]int { return &z.Learners }, func(c api.Config) api.Set { return c.Learners }},
}

// refused fails unless Allot and Check answer e, and nothing beside it.
func refused(t *testing.T, regions []int, z api.Zone, load []int, e api.Errno) {
	t.Helper()
	if c, got := zone.Allot(regions, z, load); c != (api.Config{}) || got != e {
		t.Errorf("Allot of %v %+v %v: %+v %d, not %d", regions, z, load, c, got, e)
	}
	if c, got := zone.Check(regions, z, load); c != (api.Config{}) || got != e {
		t.Errorf("Check of %v %+v %v: %+v %d, not %d", regions, z, load, c, got, e)
	}
}

// P11.1, MayZone

func TestMayZoneCases(t *testing.T) {
	all := []int{9, 9, 9, 9}
	good := []api.Zone{
		{}, example(), {Voters: []int{}, Witnesses: []int{}, Learners: []int{}}, {Voters: make([]int, 0, 9)},
		{Voters: all, Witnesses: all, Learners: all, Elect: 9, Commit: 9, Survive: 2},
		{Voters: []int{0}, Witnesses: []int{0, 9}, Learners: []int{9, 0, 9}, Elect: 1, Survive: 1},
		{Commit: 9}, {Elect: 9}, {Survive: 2}, {Learners: all},
	}
	for _, z := range good {
		if !zone.MayZone(z) {
			t.Errorf("%+v is valid", z)
		}
	}
	bad := []api.Zone{
		{Voters: make([]int, 5)}, {Witnesses: make([]int, 5)}, {Learners: make([]int, 5)}, {Voters: make([]int, 1000)},
		{Voters: []int{10}}, {Witnesses: []int{10}}, {Learners: []int{10}}, {Voters: []int{-1}}, {Witnesses: []int{-1}}, {Learners: []int{-1}},
		{Elect: 10}, {Elect: -1}, {Commit: 10}, {Commit: -1}, {Survive: 3}, {Survive: -1},
		{Voters: []int{-1, 9, 9, 9, 9}, Elect: 10, Commit: -1, Survive: 3},
	}
	for _, z := range bad {
		if zone.MayZone(z) {
			t.Errorf("%+v is not valid", z)
		}
		refused(t, five(), z, nil, api.ErrArg)
	}
}

// Each list of up to six elements, of which one is not 0.
func TestMayZoneLists(t *testing.T) {
	for _, kind := range kinds {
		for length := range 7 {
			for i := range length {
				for _, n := range append(strays(), 0, 1, 4, 8, 9) {
					z := example()
					l := make([]int, length)
					l[i] = n
					*kind.list(&z) = l
					want := length <= 4 && n >= 0 && n <= 9
					if zone.MayZone(z) != want {
						t.Errorf("%s %v: not %v", kind.name, l, want)
					}
					if !want {
						refused(t, five(), z, nil, api.ErrArg)
					}
				}
			}
		}
	}
}

func TestMayZoneSizes(t *testing.T) {
	for n := -20; n <= 40; n++ {
		z := example()
		z.Elect = n
		if zone.MayZone(z) != (n >= 0 && n <= 9) {
			t.Errorf("Elect %d", n)
		}
		z = example()
		z.Commit = n
		if zone.MayZone(z) != (n >= 0 && n <= 9) {
			t.Errorf("Commit %d", n)
		}
		z = example()
		z.Survive = n
		if zone.MayZone(z) != (n >= 0 && n <= 2) {
			t.Errorf("Survive %d", n)
		}
	}
	for _, n := range strays() {
		for _, z := range []api.Zone{{Elect: n}, {Commit: n}, {Survive: n}} {
			if zone.MayZone(z) {
				t.Errorf("%+v is not valid", z)
			}
			refused(t, five(), z, nil, api.ErrArg)
		}
	}
}

// P11.1, Allot

func TestAllotCases(t *testing.T) {
	nine := []int{3, 0, 1, 2, 3, 0, 1, 2, 3}
	cases := []struct {
		name    string
		regions []int
		z       api.Zone
		want    api.Config
	}{
		{"the example", five(), example(), api.Config{Voters: of(1, 3), Witnesses: of(5), Elect: 2, Commit: 2}},
		{"nothing", five(), api.Zone{}, api.Config{Elect: 1, Commit: 1}},
		{"one node", []int{0}, api.Zone{Voters: []int{1}}, api.Config{Voters: of(1), Elect: 1, Commit: 1}},
		{"one node in the last region", []int{3}, api.Zone{Voters: []int{0, 0, 0, 1}}, api.Config{Voters: of(1), Elect: 1, Commit: 1}},
		{"one node that is left", []int{3}, api.Zone{}, api.Config{Elect: 1, Commit: 1}},
		{"each kind in one region", []int{2, 2, 2}, api.Zone{Voters: []int{0, 0, 1}, Witnesses: []int{0, 0, 1}, Learners: []int{0, 0, 1}}, api.Config{Voters: of(1), Witnesses: of(2), Learners: of(3), Elect: 2, Commit: 2}},
		{"learners alone", five(), api.Zone{Learners: []int{2, 2, 1}}, api.Config{Learners: of(1, 2, 3, 4, 5), Elect: 1, Commit: 1}},
		{"witnesses alone", five(), api.Zone{Witnesses: []int{2, 2, 1}}, api.Config{Witnesses: of(1, 2, 3, 4, 5), Elect: 3, Commit: 3}},
		{"regions in no order", nine, api.Zone{Voters: []int{1, 1, 1, 2}, Witnesses: []int{0, 1}, Learners: []int{1, 0, 0, 1}}, api.Config{Voters: of(2, 3, 4, 1, 5), Witnesses: of(7), Learners: of(6, 9), Elect: 4, Commit: 4}},
		{"all nine", nine, api.Zone{Voters: []int{2, 2, 2, 3}, Elect: 9, Commit: 1}, api.Config{Voters: 0x3fe, Elect: 9, Commit: 1}},
		{"zeros behind the nodes", []int{0, 0}, api.Zone{Voters: []int{2, 0, 0, 0}, Witnesses: []int{0, 0}}, api.Config{Voters: of(1, 2), Elect: 2, Commit: 2}},
		{"Elect alone", five(), api.Zone{Voters: []int{2, 2, 1}, Elect: 5}, api.Config{Voters: of(1, 2, 3, 4, 5), Elect: 5, Commit: 3}},
		{"Commit alone", five(), api.Zone{Voters: []int{2, 2, 1}, Commit: 1}, api.Config{Voters: of(1, 2, 3, 4, 5), Elect: 3, Commit: 1}},
		{"sizes beyond the nodes", five(), api.Zone{Voters: []int{1}, Elect: 9, Commit: 8}, api.Config{Voters: of(1), Elect: 9, Commit: 8}},
	}
	for _, c := range cases {
		if got, e := zone.Allot(c.regions, c.z, nil); got != c.want || e != api.OK {
			t.Errorf("%s: %+v %d", c.name, got, e)
		}
	}
}

func TestAllotByLoad(t *testing.T) {
	least, most := math.MinInt, math.MaxInt
	z := api.Zone{Voters: []int{1}, Witnesses: []int{1}, Learners: []int{1}}
	cases := []struct {
		load  []int
		order []int
	}{
		{nil, []int{1, 2, 3}}, {[]int{}, []int{1, 2, 3}}, {[]int{0, 0, 0, 0}, []int{1, 2, 3}}, {[]int{7, 7, 7, 7}, []int{1, 2, 3}}, {[]int{-7, -7, -7, -7}, []int{1, 2, 3}},
		{[]int{1}, []int{2, 3, 4}}, {[]int{-1}, []int{1, 2, 3}}, {[]int{0, 1}, []int{1, 3, 4}}, {[]int{1, 1, 1}, []int{4, 1, 2}}, {[]int{1, 0, 0, -1}, []int{4, 2, 3}},
		{[]int{4, 3, 2, 1}, []int{4, 3, 2}}, {[]int{1, 2, 3, 4}, []int{1, 2, 3}}, {[]int{2, 1, 2, 1}, []int{2, 4, 1}}, {[]int{1, 2, 1, 2}, []int{1, 3, 2}},
		{[]int{3, 1, 3, 3, -9, -9}, []int{2, 1, 3}}, {[]int{5, 4, 3, 2, 1, 0, -1, -2, -3, -4, -5, -6}, []int{4, 3, 2}},
		{[]int{most, least, 0, -1}, []int{2, 4, 3}}, {[]int{least, most, least, most}, []int{1, 3, 2}}, {[]int{most, most, most, least}, []int{4, 1, 2}}, {[]int{most, most, most, most}, []int{1, 2, 3}},
		{[]int{most, most - 1, least + 1, least}, []int{4, 3, 2}}, {[]int{1, least, most}, []int{2, 4, 1}}, {[]int{most}, []int{2, 3, 4}}, {[]int{0, 0, 0, least}, []int{4, 1, 2}},
	}
	for _, c := range cases {
		want := api.Config{Voters: of(c.order[0]), Witnesses: of(c.order[1]), Learners: of(c.order[2]), Elect: 2, Commit: 2}
		if got, e := zone.Allot([]int{0, 0, 0, 0, 1}, z, c.load); got != want || e != api.OK {
			t.Errorf("load %v: %+v %d", c.load, got, e)
		}
	}
}

// The loads of one region do not count in another one, and a load of 10 nodes tells nothing of the tenth.
func TestAllotByLoadInEachRegion(t *testing.T) {
	regions := []int{1, 0, 1, 0, 3, 1, 0, 3, 1}
	z := api.Zone{Voters: []int{1, 2, 0, 1}, Witnesses: []int{1, 1, 0, 1}, Learners: []int{1, 1}}
	want := api.Config{Voters: of(7, 6, 9, 8), Witnesses: of(2, 1, 5), Learners: of(4, 3), Elect: 4, Commit: 4}
	if c, e := zone.Allot(regions, z, []int{50, 40, 60, 45, -3, 9, -1, -4, 10, -99, -98}); c != want || e != api.OK {
		t.Errorf("%+v %d", c, e)
	}
}

// A majority is the least number that is more than the half of those who vote; learners do not count.
func TestAllotMajority(t *testing.T) {
	majority := []int{1, 1, 2, 2, 3, 3, 4, 4, 5, 5}
	for voters := range 10 {
		for witnesses := range 10 - voters {
			for learners := range 10 - voters - witnesses {
				z := api.Zone{Voters: []int{voters}, Witnesses: []int{witnesses}, Learners: []int{learners}}
				for elect := range 10 {
					for commit := range 10 {
						z.Elect, z.Commit = elect, commit
						c, e := zone.Allot(make([]int, 9), z, nil)
						wantElect, wantCommit := elect, commit
						if elect == 0 {
							wantElect = majority[voters+witnesses]
						}
						if commit == 0 {
							wantCommit = majority[voters+witnesses]
						}
						if c.Elect != wantElect || c.Commit != wantCommit || e != api.OK {
							t.Fatalf("%+v: %+v %d", z, c, e)
						}
					}
				}
			}
		}
	}
}

// For each kind and each region: all of its nodes, and one more than it has.
func TestAllotJustEnough(t *testing.T) {
	regions := []int{3, 1, 0, 3, 2, 1, 3, 2, 3}
	nodes := [][]int{{3}, {2, 6}, {5, 8}, {1, 4, 7, 9}}
	for k, kind := range kinds {
		for r, has := range nodes {
			var z api.Zone
			*kind.list(&z) = make([]int, r+1)
			(*kind.list(&z))[r] = len(has)
			if c, e := zone.Allot(regions, z, nil); kind.set(c) != of(has...) || e != api.OK {
				t.Errorf("all of region %d as %s: %+v %d", r, kind.name, c, e)
			}
			for more := len(has) + 1; more <= 9; more++ {
				(*kind.list(&z))[r] = more
				refused(t, regions, z, nil, api.ErrFull)
			}
			// The nodes that one kind has are not left for the others.
			(*kind.list(&z))[r] = len(has)
			for other := range kinds {
				if other != k {
					y := z
					l := make([]int, 4)
					l[r] = 1
					*kinds[other].list(&y) = l
					refused(t, regions, y, nil, api.ErrFull)
				}
			}
		}
	}
}

// A region in which no node lies has none to choose, also behind those that have enough.
func TestAllotOfNoNodes(t *testing.T) {
	for _, kind := range kinds {
		for r := range 4 {
			regions := slices.DeleteFunc([]int{0, 1, 2, 3, 0, 1, 2, 3}, func(x int) bool { return x == r })
			z := api.Zone{Voters: []int{1, 1, 1, 1}}
			z.Voters[r] = 0
			if _, e := zone.Allot(regions, z, nil); e != api.OK {
				t.Errorf("without region %d: %d", r, e)
			}
			l := append(slices.Clone(*kind.list(&z)), 0, 0, 0, 0)[:4]
			l[r] = 1
			*kind.list(&z) = l
			refused(t, regions, z, nil, api.ErrFull)
		}
	}
}

func TestAllotErrArg(t *testing.T) {
	load := []int{3, 1, 2}
	for _, regions := range badRegions() {
		for _, z := range []api.Zone{{}, example(), {Voters: []int{1}}, {Voters: []int{9}}, {Elect: 10}, {Voters: []int{1}, Survive: 3}} {
			refused(t, regions, z, nil, api.ErrArg)
			refused(t, regions, z, load, api.ErrArg)
		}
	}
	// Regions at the ends of what they may be.
	for _, regions := range [][]int{{0}, {3}, make([]int, 9), {3, 3, 3, 3, 3, 3, 3, 3, 3}, {0, 1, 2, 3, 0, 1, 2, 3, 0}} {
		if _, e := zone.Allot(regions, api.Zone{}, load); e != api.OK {
			t.Errorf("%v: %d", regions, e)
		}
	}
	// ErrArg is due ahead of ErrFull.
	for _, z := range []api.Zone{
		{Voters: []int{9}, Elect: 10}, {Voters: []int{9}, Survive: 3}, {Voters: []int{9}, Learners: []int{0, 0, 0, -1}}, {Voters: []int{0, 0, 0, 1, 0}}, {Voters: []int{10}}, {Witnesses: []int{0, 0, 0, 10}},
	} {
		refused(t, five(), z, nil, api.ErrArg)
	}
}

// anyOf picks one of the elements.
func anyOf(r *rand.Rand, l ...int) int {
	return l[r.Intn(len(l))]
}

// anyList gives a list of up to most elements, each one of l.
func anyList(r *rand.Rand, most int, l ...int) []int {
	out := make([]int, r.Intn(most+1))
	for i := range out {
		out[i] = anyOf(r, l...)
	}
	return out
}

// anyZone gives a zone that is mostly valid and finds enough nodes in many lists of regions.
func anyZone(r *rand.Rand) api.Zone {
	z := api.Zone{
		Voters:    anyList(r, 4, 0, 0, 1, 1, 2, 3),
		Witnesses: anyList(r, 4, 0, 0, 0, 0, 0, 1, 2),
		Learners:  anyList(r, 4, 0, 0, 0, 0, 0, 1, 2),
		Elect:     anyOf(r, 0, 0, 0, 1, 2, 3, 4, 5, 9),
		Commit:    anyOf(r, 0, 0, 0, 1, 2, 3, 4, 5, 9),
		Survive:   r.Intn(3),
	}
	switch r.Intn(100) {
	case 0:
		z.Elect = anyOf(r, -1, 10)
	case 1:
		z.Survive = anyOf(r, -1, 3)
	case 2:
		z.Learners = append(z.Learners, anyOf(r, -1, 9, 10), 0)
	}
	return z
}

func TestAllotAgainstModel(t *testing.T) {
	r := rand.New(rand.NewSource(11))
	found := map[api.Errno]int{}
	for range 200000 {
		regions := anyList(r, 9, 0, 0, 0, 0, 1, 1, 2, 3)
		if r.Intn(50) == 0 {
			regions = append(regions, anyOf(r, -1, 3, 4))
		}
		z, load := anyZone(r), anyList(r, 12, -2, -1, 0, 0, 1, 2, 3, math.MinInt, math.MaxInt)
		want, code := modelAllot(regions, z, load)
		if zone.MayZone(z) != modelMayZone(z) {
			t.Fatalf("MayZone of %+v", z)
		}
		if c, e := zone.Allot(regions, z, load); c != want || e != code {
			t.Fatalf("Allot of %v %+v %v: %+v %d", regions, z, load, c, e)
		}
		found[code]++
	}
	if found[api.OK] < 20000 || found[api.ErrFull] < 20000 || found[api.ErrArg] < 5000 {
		t.Errorf("few of a kind: %v", found)
	}
}

// P11.2

func TestSurvivesCases(t *testing.T) {
	small := api.Config{Voters: of(1, 3), Witnesses: of(5), Elect: 2, Commit: 2}
	// Region 1 has two of the four.
	middle := api.Config{Voters: of(1, 2, 3, 4), Elect: 3, Commit: 2}
	cases := []struct {
		name         string
		regions      []int
		c            api.Config
		node, region int
	}{
		{"the example", five(), small, -1, -1},
		{"two in the middle region", []int{0, 1, 1, 2}, middle, -1, 1},
		{"two in the last region", []int{0, 1, 3, 3}, middle, -1, 3},
		{"two in the first region", []int{2, 0, 1, 0}, middle, -1, 0},
		{"two in two regions", []int{2, 1, 1, 2}, middle, -1, 1},
		{"Elect needs all", []int{1, 2, 3}, api.Config{Voters: of(1, 2, 3), Elect: 3, Commit: 1}, 1, 1},
		{"Commit needs all", []int{1, 2, 3}, api.Config{Voters: of(1, 2, 3), Elect: 2, Commit: 3}, 1, 1},
		{"Elect lacks one", []int{0, 3, 3}, api.Config{Voters: of(1, 2, 3), Elect: 2, Commit: 1}, -1, 3},
		{"Commit lacks one", []int{0, 3, 3}, api.Config{Voters: of(1, 2, 3), Elect: 1, Commit: 2}, -1, 3},
		{"neither lacks one", []int{0, 3, 3}, api.Config{Voters: of(1, 2, 3), Elect: 1, Commit: 1}, -1, -1},
		{"the only voter", five(), api.Config{Voters: of(3), Witnesses: of(1, 5), Elect: 2, Commit: 2}, 3, 1},
		{"voters of one region", five(), api.Config{Voters: of(3, 4), Witnesses: of(1, 2, 5), Elect: 3, Commit: 3}, -1, 1},
		{"a voter of another region", five(), api.Config{Voters: of(3, 5), Witnesses: of(1, 2, 4), Elect: 3, Commit: 3}, -1, -1},
		{"learners do not count", five(), api.Config{Voters: of(1, 3), Learners: of(2, 4, 5), Elect: 2, Commit: 1}, 1, 0},
		{"a learner is no voter", five(), api.Config{Voters: of(5), Witnesses: of(1, 2), Learners: of(3, 4), Elect: 1, Commit: 1}, 5, 2},
		{"one node", []int{2}, api.Config{Voters: of(1), Elect: 1, Commit: 1}, 1, 2},
		{"all of one region", make([]int, 9), api.Config{Voters: 0x3fe, Elect: 5, Commit: 5}, -1, 0},
		{"all of the last region", []int{3, 3, 3, 3, 3, 3, 3, 3, 3}, api.Config{Voters: 0x3fe, Elect: 8, Commit: 8}, -1, 3},
		{"a node without a part is lost", []int{0, 1}, api.Config{Voters: of(2), Elect: 1, Commit: 1}, 2, 1},
		// Nodes beyond the list lie in no region, and are not lost.
		{"all lie in no region", []int{0, 1, 2, 3}, api.Config{Voters: of(7, 8, 9), Elect: 3, Commit: 3}, -1, -1},
		{"the voter lies in no region", []int{0}, api.Config{Voters: of(2), Elect: 1, Commit: 1}, -1, -1},
		{"one lies in no region", []int{1, 2}, api.Config{Voters: of(1, 2, 3), Elect: 2, Commit: 2}, -1, -1},
		{"one lies in no region, two in one", []int{2, 2}, api.Config{Voters: of(1, 2, 3), Elect: 2, Commit: 2}, -1, 2},
		{"witnesses lie in no region", []int{2, 2}, api.Config{Voters: of(1, 2), Witnesses: of(7, 8, 9), Elect: 3, Commit: 3}, -1, 2},
		// What no loss leaves enough of fails at the first one, though it takes nothing away.
		{"nothing", []int{3, 3}, api.Config{}, 1, 0},
		{"no voter", []int{3, 3}, api.Config{Witnesses: of(5, 6), Elect: 1, Commit: 1}, 1, 0},
		{"too few", []int{3, 3}, api.Config{Voters: of(5, 6), Elect: 3, Commit: 1}, 1, 0},
	}
	for _, c := range cases {
		if is, where := zone.Survives(c.regions, c.c, 0); !is || where != -1 {
			t.Errorf("%s, nothing lost: %v %d", c.name, is, where)
		}
		if is, where := zone.Survives(c.regions, c.c, 1); is != (c.node == -1) || where != c.node {
			t.Errorf("%s, a node lost: %v %d", c.name, is, where)
		}
		if is, where := zone.Survives(c.regions, c.c, 2); is != (c.region == -1) || where != c.region {
			t.Errorf("%s, a region lost: %v %d", c.name, is, where)
		}
	}
}

// Of nine nodes each in its turn is the only voter.
func TestSurvivesFirstToLastNode(t *testing.T) {
	for n := 1; n <= 9; n++ {
		c := api.Config{Voters: of(n), Witnesses: 0x3fe - of(n), Elect: 5, Commit: 5}
		for length := 1; length <= 9; length++ {
			is, where := zone.Survives(make([]int, length), c, 1)
			if lost := n <= length; is == lost || lost && where != n || !lost && where != -1 {
				t.Errorf("the voter %d of %d: %v %d", n, length, is, where)
			}
		}
	}
}

// Of four regions each in its turn has all the voters, or so many nodes that too few remain.
func TestSurvivesFirstToLastRegion(t *testing.T) {
	for r := range 4 {
		regions := []int{0, 1, 2, 3, 0, 1, 2, 3}
		c := api.Config{Voters: of(r+1, r+5), Witnesses: of(1, 2, 3, 4, 5, 6, 7, 8) - of(r+1, r+5), Elect: 5, Commit: 5}
		if is, where := zone.Survives(regions, c, 2); is || where != r {
			t.Errorf("all voters in region %d: %v %d", r, is, where)
		}
		c.Voters, c.Witnesses = c.Witnesses, c.Voters
		if is, where := zone.Survives(regions, c, 2); !is || where != -1 {
			t.Errorf("no voter in region %d: %v %d", r, is, where)
		}
		c = api.Config{Voters: 0x3fe, Elect: 7, Commit: 3}
		if is, where := zone.Survives(append(regions, r), c, 2); is || where != r {
			t.Errorf("Elect lacks one without region %d: %v %d", r, is, where)
		}
		c.Elect, c.Commit = 3, 7
		if is, where := zone.Survives(append(regions, r), c, 2); is || where != r {
			t.Errorf("Commit lacks one without region %d: %v %d", r, is, where)
		}
		c.Elect, c.Commit = 6, 6
		if is, where := zone.Survives(append(regions, r), c, 2); !is || where != -1 {
			t.Errorf("six are left without region %d: %v %d", r, is, where)
		}
	}
}

func TestSurvivesOfNone(t *testing.T) {
	good := api.Config{Voters: of(1, 3), Witnesses: of(5), Elect: 2, Commit: 2}
	whats := append(strays(), 0, 1, 2, 3, 4, 5, 6)
	for _, c := range []api.Config{good, {}, {Voters: of(9), Elect: 1, Commit: 1}} {
		// Regions that are not valid come ahead of whatever is asked.
		for _, regions := range badRegions() {
			for _, what := range whats {
				if is, where := zone.Survives(regions, c, what); is || where != -1 {
					t.Errorf("%v of %+v, %d: %v %d", regions, c, what, is, where)
				}
			}
		}
		for _, what := range whats {
			if what >= 0 && what <= 2 {
				continue
			}
			for _, regions := range [][]int{{0}, five(), {0, 1, 2, 3, 0, 1, 2, 3, 0}} {
				if is, where := zone.Survives(regions, c, what); is || where != -1 {
					t.Errorf("%v of %+v, %d: %v %d", regions, c, what, is, where)
				}
			}
		}
		if is, where := zone.Survives([]int{0}, c, 0); !is || where != -1 {
			t.Errorf("nothing lost of %+v: %v %d", c, is, where)
		}
	}
}

// Configurations that are not valid: a bit that is no node's is no voter, and a node that is two things is one node.
func TestSurvivesOfOtherBits(t *testing.T) {
	for _, other := range []api.Set{1, 1 << 10, 1 << 15, 0xfc00, 0xfc01} {
		c := api.Config{Voters: of(2) | other, Witnesses: of(1, 3) | other, Learners: other, Elect: 2, Commit: 2}
		if is, where := zone.Survives([]int{0, 1, 2}, c, 1); is || where != 2 {
			t.Errorf("the voters %#x, a node lost: %v %d", c.Voters, is, where)
		}
		if is, where := zone.Survives([]int{0, 1, 2}, c, 2); is || where != 1 {
			t.Errorf("the voters %#x, a region lost: %v %d", c.Voters, is, where)
		}
		c.Voters, c.Elect = of(1, 2)|other, 3
		if is, where := zone.Survives([]int{0, 1, 2}, c, 1); is || where != 1 {
			t.Errorf("two of three are enough with %#x: %v %d", other, is, where)
		}
	}
	c := api.Config{Voters: of(1, 2), Witnesses: of(1, 2), Elect: 2, Commit: 2}
	if is, where := zone.Survives([]int{0, 1, 2}, c, 1); is || where != 1 {
		t.Errorf("a node counts twice: %v %d", is, where)
	}
	// Sizes that no quorum has.
	for _, n := range strays() {
		c := api.Config{Voters: of(1, 2), Elect: n, Commit: 1}
		if is, _ := zone.Survives([]int{0, 1}, c, 2); is != (n < 0) {
			t.Errorf("Elect %d: %v", n, is)
		}
		c.Elect, c.Commit = 1, n
		if is, _ := zone.Survives([]int{0, 1}, c, 1); is != (n < 0) {
			t.Errorf("Commit %d: %v", n, is)
		}
	}
}

// castsOf lists configurations without sizes of the nodes, each of which is a voter, a witness, a learner or nothing.
func castsOf(nodes ...int) []api.Config {
	out := []api.Config{{}}
	for _, n := range nodes {
		var next []api.Config
		for _, c := range out {
			s := of(n)
			next = append(next, c,
				api.Config{Voters: c.Voters + s, Witnesses: c.Witnesses, Learners: c.Learners},
				api.Config{Voters: c.Voters, Witnesses: c.Witnesses + s, Learners: c.Learners},
				api.Config{Voters: c.Voters, Witnesses: c.Witnesses, Learners: c.Learners + s})
		}
		out = next
	}
	return out
}

// All configurations of four nodes, of which some lists have no region.
func TestSurvivesOfAll(t *testing.T) {
	casts := castsOf(1, 2, 3, 4)
	found := map[bool]int{}
	for length := 1; length <= 4; length++ {
		for _, regions := range listsOf(length, 0, 1, 3) {
			for _, c := range casts {
				for _, size := range listsOf(2, 0, 1, 2, 3, 4) {
					c.Elect, c.Commit = size[0], size[1]
					for what := 1; what <= 2; what++ {
						is, where := zone.Survives(regions, c, what)
						if want, place := modelSurvives(regions, c, what); is != want || where != place {
							t.Fatalf("%v of %+v, %d: %v %d", regions, c, what, is, where)
						}
						found[is]++
					}
				}
			}
		}
	}
	if found[true] < 50000 || found[false] < 50000 {
		t.Errorf("few of a kind: %v", found)
	}
}

func TestSurvivesAgainstModel(t *testing.T) {
	r := rand.New(rand.NewSource(12))
	for range 200000 {
		regions := anyList(r, 10, 0, 0, 1, 1, 2, 3)
		c := api.Config{Voters: api.Set(r.Intn(1 << 16)), Witnesses: api.Set(r.Intn(1 << 16)), Learners: api.Set(r.Intn(1 << 16)), Elect: r.Intn(10), Commit: r.Intn(10)}
		what := r.Intn(5) - 1
		is, where := zone.Survives(regions, c, what)
		if want, place := modelSurvives(regions, c, what); is != want || where != place {
			t.Fatalf("%v of %+v, %d: %v %d", regions, c, what, is, where)
		}
	}
}

// P11.3

func TestCheckCases(t *testing.T) {
	cases := []struct {
		name string
		z    api.Zone
		want api.Errno
	}{
		{"the example", example(), api.OK},
		{"no voter", api.Zone{}, api.ErrQuorum},
		{"witnesses alone", api.Zone{Witnesses: []int{1, 1, 1}}, api.ErrQuorum},
		{"learners alone", api.Zone{Learners: []int{1, 1, 1}}, api.ErrQuorum},
		{"Elect and Commit do not meet", api.Zone{Voters: []int{1, 1, 1}, Elect: 2, Commit: 1}, api.ErrQuorum},
		{"Elect does not meet itself", api.Zone{Voters: []int{2, 2}, Elect: 2, Commit: 3}, api.ErrQuorum},
		{"Elect beyond the nodes", api.Zone{Voters: []int{1, 1, 1}, Elect: 4}, api.ErrQuorum},
		{"Commit beyond the nodes", api.Zone{Voters: []int{1, 1, 1}, Commit: 4}, api.ErrQuorum},
		{"Commit beyond those who vote", api.Zone{Voters: []int{1, 1}, Learners: []int{0, 0, 1}, Commit: 3}, api.ErrQuorum},
		{"a lone voter", api.Zone{Voters: []int{1}}, api.OK},
		{"a lone voter, a node lost", api.Zone{Voters: []int{1}, Survive: 1}, api.ErrZone},
		{"a lone voter, a region lost", api.Zone{Voters: []int{1}, Survive: 2}, api.ErrZone},
		{"all of two regions", api.Zone{Voters: []int{2, 1}}, api.OK},
		{"all of two regions, a node lost", api.Zone{Voters: []int{2, 1}, Survive: 1}, api.OK},
		{"all of two regions, a region lost", api.Zone{Voters: []int{2, 1}, Survive: 2}, api.ErrZone},
		{"three regions", api.Zone{Voters: []int{1, 1, 1}, Survive: 2}, api.OK},
		{"three regions, Elect needs all", api.Zone{Voters: []int{1, 1, 1}, Elect: 3, Commit: 1, Survive: 2}, api.ErrZone},
		{"three regions, Commit needs all", api.Zone{Voters: []int{1, 1, 1}, Commit: 3, Survive: 1}, api.ErrZone},
		{"three regions, all needed, nothing lost", api.Zone{Voters: []int{1, 1, 1}, Elect: 3, Commit: 3}, api.OK},
		{"the only voter among witnesses", api.Zone{Voters: []int{0, 1}, Witnesses: []int{1, 0, 1}, Survive: 1}, api.ErrZone},
		{"learners do not help", api.Zone{Voters: []int{1, 1}, Learners: []int{1, 1, 1}, Survive: 2}, api.ErrZone},
		{"all five", api.Zone{Voters: []int{2, 2}, Witnesses: []int{0, 0, 1}, Survive: 2}, api.OK},
		{"all five, Elect 4", api.Zone{Voters: []int{2, 2}, Witnesses: []int{0, 0, 1}, Elect: 4, Survive: 2}, api.ErrZone},
		{"all five, Elect 4, a node lost", api.Zone{Voters: []int{2, 2}, Witnesses: []int{0, 0, 1}, Elect: 4, Survive: 1}, api.OK},
		// Two are due: the first counts.
		{"too many, and no quorum", api.Zone{Voters: []int{3}, Elect: 1, Commit: 1}, api.ErrFull},
		{"too many, and none survives", api.Zone{Voters: []int{3}, Survive: 2}, api.ErrFull},
		{"no zone, and too many", api.Zone{Voters: []int{3}, Survive: 3}, api.ErrArg},
		{"no zone, and no quorum", api.Zone{Elect: 10}, api.ErrArg},
		{"no quorum, and no voter to survive", api.Zone{Survive: 1}, api.ErrQuorum},
		{"no quorum, and none survives", api.Zone{Voters: []int{2, 1}, Elect: 1, Commit: 1, Survive: 2}, api.ErrQuorum},
		{"no quorum, though it survives", api.Zone{Voters: []int{1, 1, 1}, Elect: 1, Commit: 1, Survive: 2}, api.ErrQuorum},
	}
	for _, c := range cases {
		want, _ := modelAllot(five(), c.z, nil)
		if c.want != api.OK {
			want = api.Config{}
		}
		if got, e := zone.Check(five(), c.z, nil); got != want || e != c.want {
			t.Errorf("%s: %+v %d", c.name, got, e)
		}
	}
}

// The configuration is the one of Allot, with the nodes that the loads choose.
func TestCheckByLoad(t *testing.T) {
	want := api.Config{Voters: of(2, 4), Witnesses: of(5), Elect: 2, Commit: 2}
	if c, e := zone.Check(five(), example(), []int{1, 0, 0, -1}); c != want || e != api.OK {
		t.Errorf("%+v %d", c, e)
	}
}

func TestCheckAgainstModel(t *testing.T) {
	r := rand.New(rand.NewSource(13))
	found := map[api.Errno]int{}
	for range 300000 {
		regions := anyList(r, 9, 0, 0, 0, 1, 1, 1, 2, 2, 3)
		z, load := anyZone(r), anyList(r, 10, -1, 0, 0, 1, 2)
		want, code := modelAllot(regions, z, load)
		if code == api.OK && !conf.May(want) {
			want, code = api.Config{}, api.ErrQuorum
		}
		if is, _ := modelSurvives(regions, want, z.Survive); code == api.OK && !is {
			want, code = api.Config{}, api.ErrZone
		}
		if c, e := zone.Check(regions, z, load); c != want || e != code {
			t.Fatalf("Check of %v %+v %v: %+v %d, not %+v %d", regions, z, load, c, e, want, code)
		}
		found[code]++
	}
	for _, e := range []api.Errno{api.OK, api.ErrArg, api.ErrFull, api.ErrQuorum, api.ErrZone} {
		if found[e] < 2000 {
			t.Errorf("%d answered %d", found[e], e)
		}
	}
}

// What follows

// goesOn tells whether those of c who are not lost can still elect and still commit, by the quorums of layer 10.
func goesOn(c api.Config, lost func(n int) bool) bool {
	var left api.Set
	for n := 1; n <= 9; n++ {
		if !lost(n) {
			left += of(n)
		}
	}
	j := api.Joint{Old: c}
	return conf.Elects(j, left) && conf.Commits(j, left)
}

// outlives tells whether c goes on behind each single loss.
func outlives(regions []int, c api.Config, survive int) bool {
	for lost := range 10 {
		if survive == 1 && lost > 0 && !goesOn(c, func(n int) bool { return n == lost }) {
			return false
		}
		if survive == 2 && !goesOn(c, func(n int) bool { return n <= len(regions) && regions[n-1] == lost }) {
			return false
		}
	}
	return true
}

// All zones of up to four nodes: of the valid configurations just those are refused that do not go on.
func TestCheckRefusesExactly(t *testing.T) {
	found := map[api.Errno]int{}
	for length := 1; length <= 4; length++ {
		for _, regions := range listsOf(length, 0, 2, 3) {
			for _, z := range zonesOf(regions) {
				for _, size := range listsOf(2, 0, 1, 2, 3, 4) {
					z.Elect, z.Commit = size[0], size[1]
					for z.Survive = range 3 {
						c, code := modelAllot(regions, z, nil)
						switch {
						case !conf.May(c):
							c, code = api.Config{}, api.ErrQuorum
						case !outlives(regions, c, z.Survive):
							c, code = api.Config{}, api.ErrZone
						}
						if got, e := zone.Check(regions, z, nil); got != c || e != code {
							t.Fatalf("Check of %v %+v: %+v %d", regions, z, got, e)
						}
						found[code]++
					}
				}
			}
		}
	}
	if len(found) != 3 || found[api.OK] < 10000 || found[api.ErrZone] < 10000 {
		t.Errorf("few of a kind: %v", found)
	}
}

// R1 to R4

// guarded gives l with unused capacity behind it, and a function that tells whether all of it is as it was.
func guarded(l []int) ([]int, func() bool) {
	whole := append(slices.Clone(l), 77, -77, 1, 0)
	kept := slices.Clone(whole)
	return whole[:len(l)], func() bool { return slices.Equal(whole, kept) }
}

func TestArgumentsStay(t *testing.T) {
	r := rand.New(rand.NewSource(14))
	for range 20000 {
		z := anyZone(r)
		regions, sameRegions := guarded(anyList(r, 10, 0, 1, 2, 3))
		load, sameLoad := guarded(anyList(r, 10, -1, 0, 1, 2))
		var same []func() bool
		for _, kind := range kinds {
			l, f := guarded(*kind.list(&z))
			*kind.list(&z) = l
			same = append(same, f)
		}
		c, e := zone.Allot(regions, z, load)
		checked, code := zone.Check(regions, z, load)
		is, where := zone.Survives(regions, c, z.Survive)
		may := zone.MayZone(z)
		for _, f := range append(same, sameRegions, sameLoad) {
			if !f() {
				t.Fatalf("an argument is changed: %v %+v %v", regions, z, load)
			}
		}
		// The same again, from lists that have no room.
		z.Voters, z.Witnesses, z.Learners = slices.Clip(z.Voters), slices.Clip(z.Witnesses), slices.Clip(z.Learners)
		regions, load = slices.Clip(regions), slices.Clip(load)
		c2, e2 := zone.Allot(regions, z, load)
		checked2, code2 := zone.Check(regions, z, load)
		is2, where2 := zone.Survives(regions, c, z.Survive)
		if c != c2 || e != e2 || checked != checked2 || code != code2 || is != is2 || where != where2 || may != zone.MayZone(z) {
			t.Fatalf("another answer: %v %+v %v", regions, z, load)
		}
	}
}

// Nil lists and empty ones are the same.
func TestNilAndEmpty(t *testing.T) {
	empty := []int{}
	for _, regions := range [][]int{{0}, {3, 0}, five()} {
		for _, z := range []api.Zone{{}, {Survive: 2}, {Voters: []int{1}}, {Witnesses: []int{1}}, {Learners: []int{1}, Elect: 2}} {
			y := z
			for _, kind := range kinds {
				if *kind.list(&y) == nil {
					*kind.list(&y) = empty
				}
			}
			a, e := zone.Allot(regions, z, nil)
			if b, code := zone.Allot(regions, y, empty); a != b || e != code || zone.MayZone(z) != zone.MayZone(y) {
				t.Errorf("%v %+v: %+v %d, with empty lists %+v %d", regions, z, a, e, b, code)
			}
		}
	}
}

// Whatever the arguments are, no call panics, and what is not valid is refused.
func TestNoArgumentsPanic(t *testing.T) {
	numbers := append(strays(), 0, 1, 2, 3, 4, 9)
	many := make([]int, 100000)
	for i := range many {
		many[i] = numbers[i%len(numbers)]
	}
	lists := [][]int{nil, {0}, {1, 2, 3}, {9, 9, 9, 9}, many, many[:9], many[20:30]}
	for i, regions := range lists {
		for k, l := range lists {
			for x, n := range numbers {
				z := api.Zone{Voters: l, Witnesses: lists[(k+x)%len(lists)], Learners: lists[(k+i)%len(lists)], Elect: n, Commit: numbers[(x+i)%len(numbers)], Survive: numbers[(x+k)%len(numbers)]}
				load := lists[(x+k+i)%len(lists)]
				want, code := modelAllot(regions, z, load)
				if c, e := zone.Allot(regions, z, load); c != want || e != code || zone.MayZone(z) != modelMayZone(z) {
					t.Fatalf("Allot: %+v %d, not %+v %d", c, e, want, code)
				}
				if c, e := zone.Check(regions, z, load); e == api.OK && c != want || e != api.OK && c != (api.Config{}) {
					t.Fatalf("Check: %+v %d", c, e)
				}
				c := api.Config{Voters: api.Set(i * 9999), Witnesses: api.Set(k * 7777), Learners: 0xffff, Elect: n, Commit: -n}
				is, where := zone.Survives(regions, c, z.Survive)
				if want, place := modelSurvives(regions, c, z.Survive); is != want || where != place {
					t.Fatalf("Survives: %v %d", is, where)
				}
			}
		}
	}
}
