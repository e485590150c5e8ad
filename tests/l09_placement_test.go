package tests

import (
	"math"
	"math/rand/v2"
	"slices"
	"testing"

	"loop.example/g01926/impl"
)

// The tests of this file check promise 5: a plan keeps the members that are alive and
// adds only servers with room.

// places returns one place for each row of Rack, Capacity and Load.
func places(rows ...[3]int) []impl.Place {
	var l []impl.Place
	for _, row := range rows {
		l = append(l, impl.Place{Rack: row[0], Capacity: row[1], Load: row[2]})
	}
	return l
}

// mixedPlaces returns places in three racks, of which only the one of server 2 has no
// room. The servers 3 and 4 have the least Load, 0.
func mixedPlaces() []impl.Place {
	return places([3]int{0, 3, 2}, [3]int{0, 2, 1}, [3]int{1, 1, 1}, [3]int{1, 3, 0}, [3]int{2, 3, 0})
}

// equalPlaces returns places with equal Load and room, each in the rack of its number.
func equalPlaces(racks ...int) []impl.Place {
	var l []impl.Place
	for _, rack := range racks {
		l = append(l, impl.Place{Rack: rack, Capacity: 5, Load: 2})
	}
	return l
}

// fewPlaces returns valid lists: with equal and different racks, with room everywhere
// and nowhere, with all fields at their limits.
func fewPlaces() [][]impl.Place {
	return [][]impl.Place{
		mixedPlaces(),
		equalPlaces(0, 1, 2, 3, 4),
		equalPlaces(7, 7, 7, 7, 7),
		equalPlaces(1, 0, 1, 0, 1),
		make([]impl.Place, 5),
		places([3]int{9, 9, 99}, [3]int{9, 9, 99}, [3]int{9, 9, 99}, [3]int{9, 9, 99}, [3]int{9, 9, 99}),
		places([3]int{9, 9, 8}, [3]int{0, 9, 9}, [3]int{0, 1, 0}, [3]int{9, 0, 0}, [3]int{5, 9, 0}),
		places([3]int{4, 1, 0}, [3]int{3, 2, 1}, [3]int{2, 3, 2}, [3]int{1, 4, 3}, [3]int{0, 5, 4}),
		places([3]int{2, 9, 3}, [3]int{2, 9, 3}, [3]int{0, 9, 7}, [3]int{0, 9, 0}, [3]int{2, 0, 0}),
		places([3]int{1, 2, 2}, [3]int{1, 2, 2}, [3]int{1, 2, 2}, [3]int{2, 2, 2}, [3]int{3, 2, 1}),
	}
}

// changedPlaces returns copies of a list of places in each of which apply has changed
// another place.
func changedPlaces(l []impl.Place, apply func(p *impl.Place)) [][]impl.Place {
	var all [][]impl.Place
	for i := range l {
		changed := slices.Clone(l)
		apply(&changed[i])
		all = append(all, changed)
	}
	return all
}

// wrongPlaces returns lists that are no places: with another length, or with one
// field out of range.
func wrongPlaces() [][]impl.Place {
	valid := mixedPlaces()
	wrong := [][]impl.Place{
		nil, {}, valid[:1], valid[:3], valid[:4], valid[1:],
		append(slices.Clone(valid), valid[0]), append(slices.Clone(valid), impl.Place{}),
		append(slices.Clone(valid), valid...), make([]impl.Place, 4), make([]impl.Place, 6), make([]impl.Place, 256+5),
	}
	for _, l := range [][]impl.Place{valid, make([]impl.Place, 5), equalPlaces(9, 9, 9, 9, 9)} {
		for _, n := range append(farNumbers(), 10, 11, 16, 64, 99) {
			wrong = append(wrong, changedPlaces(l, func(p *impl.Place) { p.Rack = n })...)
			wrong = append(wrong, changedPlaces(l, func(p *impl.Place) { p.Capacity = n })...)
			if n > 99 || n < 0 {
				wrong = append(wrong, changedPlaces(l, func(p *impl.Place) { p.Load = n })...)
			}
		}
	}
	return wrong
}

// randomPlaces returns places in at most the given number of racks, with few different
// loads, so that many servers are equal in some respect, and some without room.
func randomPlaces(random *rand.Rand, racks int) []impl.Place {
	var l []impl.Place
	for range 5 {
		capacity := random.IntN(5)
		l = append(l, impl.Place{Rack: random.IntN(racks), Capacity: capacity, Load: max(0, capacity-random.IntN(3))})
	}
	return l
}

// manyPlaces returns the few valid lists and count random ones.
func manyPlaces(seed uint64, count int) [][]impl.Place {
	random := rand.New(rand.NewPCG(9, seed))
	all := fewPlaces()
	for i := range count {
		all = append(all, randomPlaces(random, 1+i%5))
	}
	return all
}

func TestArePlacesAcceptsTheLimits(t *testing.T) {
	for _, l := range fewPlaces() {
		if !impl.ArePlaces(l) {
			t.Errorf("ArePlaces(%v) = false", l)
		}
	}
	for _, l := range fewPlaces() {
		for _, n := range []int{0, 1, 8, 9} {
			for _, changed := range changedPlaces(l, func(p *impl.Place) { p.Rack = n }) {
				if !impl.ArePlaces(changed) {
					t.Errorf("ArePlaces(%v) = false", changed)
				}
			}
			for _, changed := range changedPlaces(l, func(p *impl.Place) { p.Capacity = n }) {
				if !impl.ArePlaces(changed) {
					t.Errorf("ArePlaces(%v) = false", changed)
				}
			}
		}
		for _, n := range []int{0, 1, 9, 10, 98, 99} {
			for _, changed := range changedPlaces(l, func(p *impl.Place) { p.Load = n }) {
				if !impl.ArePlaces(changed) {
					t.Errorf("ArePlaces(%v) = false", changed)
				}
			}
		}
	}
}

func TestArePlacesChecksEachField(t *testing.T) {
	for n := -120; n <= 120; n++ {
		digit, load := n >= 0 && n <= 9, n >= 0 && n <= 99
		for i := range 5 {
			for _, c := range []struct {
				p    impl.Place
				want bool
			}{
				{impl.Place{Rack: n, Capacity: 3, Load: 1}, digit},
				{impl.Place{Rack: 3, Capacity: n, Load: 1}, digit},
				{impl.Place{Rack: 3, Capacity: 3, Load: n}, load},
			} {
				l := mixedPlaces()
				l[i] = c.p
				if got := impl.ArePlaces(l); got != c.want {
					t.Errorf("ArePlaces(%v) = %v", l, got)
				}
			}
		}
	}
}

func TestArePlacesRejects(t *testing.T) {
	for _, l := range wrongPlaces() {
		if impl.ArePlaces(l) {
			t.Errorf("ArePlaces(%v) = true", l)
		}
	}
}

func TestArePlacesChecksTheLength(t *testing.T) {
	for length := range 20 {
		for _, p := range []impl.Place{{}, {Rack: 9, Capacity: 9, Load: 99}, {Rack: 1, Capacity: 2, Load: 1}} {
			l := slices.Repeat([]impl.Place{p}, length)
			if got := impl.ArePlaces(l); got != (length == 5) {
				t.Errorf("ArePlaces of %d places = %v", length, got)
			}
		}
	}
}

func TestHasRoomExamples(t *testing.T) {
	for id, want := range []bool{true, true, false, true, true} {
		if got := impl.HasRoom(mixedPlaces(), id); got != want {
			t.Errorf("HasRoom of server %d = %v", id, got)
		}
	}
}

// The Load of a server that has no room may exceed its Capacity.
func TestHasRoomComparesLoadAndCapacity(t *testing.T) {
	for id := range 5 {
		for capacity := range 10 {
			for load := range 100 {
				for _, others := range []impl.Place{{}, {Rack: 9, Capacity: 9}, {Capacity: 9, Load: 99}} {
					l := slices.Repeat([]impl.Place{others}, 5)
					l[id] = impl.Place{Rack: 4, Capacity: capacity, Load: load}
					if got := impl.HasRoom(l, id); got != (load < capacity) {
						t.Fatalf("HasRoom(%v, %d) = %v", l, id, got)
					}
				}
			}
		}
	}
}

func TestHasRoomBesideTheCapacity(t *testing.T) {
	for id := range 5 {
		for capacity := 1; capacity <= 9; capacity++ {
			for change, want := range map[int]bool{-1: true, 0: false, 1: false} {
				l := make([]impl.Place, 5)
				l[id] = impl.Place{Capacity: capacity, Load: capacity + change}
				if got := impl.HasRoom(l, id); got != want {
					t.Errorf("HasRoom(%v, %d) = %v", l, id, got)
				}
			}
		}
	}
}

func TestHasRoomOfServersThatDoNotExist(t *testing.T) {
	for _, l := range fewPlaces() {
		for _, id := range append(farNumbers(), 5, 6, 7, 8, 9, 10, 64, 99) {
			if impl.HasRoom(l, id) {
				t.Errorf("HasRoom(%v, %d) = true", l, id)
			}
		}
	}
}

func TestHasRoomOfInvalidPlaces(t *testing.T) {
	for _, l := range wrongPlaces() {
		for _, id := range append(farNumbers(), 0, 1, 2, 3, 4, 5, 6, 7, 9, 10) {
			if impl.HasRoom(l, id) {
				t.Errorf("HasRoom(%v, %d) = true", l, id)
			}
		}
	}
}

// expectedRacks looks at each rack: it is one of a member or not. The arguments are
// valid.
func expectedRacks(l []impl.Place, members []int) []int {
	var racks []int
	for rack := range 10 {
		if slices.ContainsFunc(members, func(id int) bool { return l[id].Rack == rack }) {
			racks = append(racks, rack)
		}
	}
	return racks
}

func TestRacksOfExamples(t *testing.T) {
	descending := equalPlaces(9, 7, 5, 3, 0)
	for _, c := range []struct {
		l       []impl.Place
		members []int
		want    []int
	}{
		{mixedPlaces(), nil, nil},
		{mixedPlaces(), []int{}, nil},
		{mixedPlaces(), []int{0}, []int{0}},
		{mixedPlaces(), []int{4}, []int{2}},
		{mixedPlaces(), []int{0, 1}, []int{0}},
		{mixedPlaces(), []int{2, 3}, []int{1}},
		{mixedPlaces(), []int{0, 1, 3}, []int{0, 1}},
		{mixedPlaces(), []int{0, 2, 4}, []int{0, 1, 2}},
		{mixedPlaces(), []int{0, 1, 2, 3, 4}, []int{0, 1, 2}},
		{descending, []int{0, 1, 2, 3, 4}, []int{0, 3, 5, 7, 9}},
		{descending, []int{0, 4}, []int{0, 9}},
		{descending, []int{1, 2}, []int{5, 7}},
		{equalPlaces(7, 7, 7, 7, 7), []int{0, 1, 2, 3, 4}, []int{7}},
		{equalPlaces(1, 0, 1, 0, 1), []int{0, 1, 2}, []int{0, 1}},
		{equalPlaces(1, 0, 1, 0, 1), []int{0, 2, 4}, []int{1}},
		{make([]impl.Place, 5), []int{1, 2}, []int{0}},
	} {
		if got := impl.RacksOf(c.l, c.members); !slices.Equal(got, c.want) {
			t.Errorf("RacksOf(%v, %v) = %v, want %v", c.l, c.members, got, c.want)
		}
	}
}

func TestRacksOfAllSets(t *testing.T) {
	for _, l := range manyPlaces(1, 500) {
		for _, members := range serverSets() {
			want := expectedRacks(l, members)
			if got := impl.RacksOf(l, members); !slices.Equal(got, want) {
				t.Fatalf("RacksOf(%v, %v) = %v, want %v", l, members, got, want)
			}
		}
	}
}

func TestRacksOfInvalidArguments(t *testing.T) {
	for _, l := range wrongPlaces() {
		for _, members := range [][]int{nil, {0}, {0, 1}, {1, 3}, {0, 1, 2, 3, 4}, {4}} {
			if got := impl.RacksOf(l, members); len(got) != 0 {
				t.Errorf("RacksOf(%v, %v) = %v", l, members, got)
			}
		}
	}
	for _, l := range append(fewPlaces(), nil, make([]impl.Place, 6)) {
		for _, members := range wrongLists() {
			if got := impl.RacksOf(l, members); len(got) != 0 {
				t.Errorf("RacksOf(%v, %v) = %v", l, members, got)
			}
		}
	}
}

// expectedSpare tries the best kind of spare first: for each kind of rack, for each
// Load, for each server in turn. The places and the members are valid.
func expectedSpare(l []impl.Place, members []int, avoid []int) int {
	for _, wantShared := range []bool{false, true} {
		for load := range 9 {
			for id, p := range l {
				shared := slices.ContainsFunc(members, func(m int) bool { return l[m].Rack == p.Rack })
				free := !slices.Contains(members, id) && !slices.Contains(avoid, id)
				if free && shared == wantShared && p.Load == load && p.Load < p.Capacity {
					return id
				}
			}
		}
	}
	return -1
}

func checkPickSpare(t *testing.T, l []impl.Place, members []int, avoid []int, want int) {
	t.Helper()
	if got := impl.PickSpare(l, members, avoid); got != want {
		t.Fatalf("PickSpare(%v, %v, %v) = %d, want %d", l, members, avoid, got, want)
	}
}

func TestPickSpareExamples(t *testing.T) {
	mixed := mixedPlaces()
	for _, c := range []struct {
		members, avoid []int
		want           int
	}{
		// Of the servers 3 and 4 with the least Load, 3 has the lower number.
		{nil, nil, 3},
		{[]int{}, []int{}, 3},
		{nil, []int{3}, 4},
		{nil, []int{3, 4}, 1},
		{nil, []int{1, 3, 4}, 0},
		{nil, []int{0, 1, 3, 4}, -1},
		{nil, []int{0, 1, 3}, 4},
		// A new rack counts more than the Load.
		{[]int{3}, nil, 4},
		{[]int{3, 4}, nil, 1},
		{[]int{2, 4}, nil, 1},
		{[]int{2, 4}, []int{1}, 0},
		{[]int{2, 4}, []int{0, 1}, 3},
		{[]int{0}, []int{4}, 3},
		{[]int{0}, []int{3, 4}, 1},
		{[]int{4}, []int{3}, 1},
		{[]int{4}, []int{0, 1, 3}, -1},
		// No rack is new any more.
		{[]int{0, 3, 4}, nil, 1},
		{[]int{1, 2, 4}, nil, 3},
		{[]int{1, 3, 4}, nil, 0},
		{[]int{0, 1, 3, 4}, nil, -1},
		{[]int{0, 1, 2, 3, 4}, nil, -1},
		{nil, []int{0, 1, 2, 3, 4}, -1},
	} {
		checkPickSpare(t, mixed, c.members, c.avoid, c.want)
	}
}

// Servers with equal Load are told apart by the rack and the number.
func TestPickSpareWithEqualLoad(t *testing.T) {
	for _, c := range []struct {
		l              []impl.Place
		members, avoid []int
		want           int
	}{
		{equalPlaces(0, 1, 2, 3, 4), nil, nil, 0},
		{equalPlaces(4, 3, 2, 1, 0), nil, nil, 0},
		{equalPlaces(0, 1, 2, 3, 4), []int{0}, nil, 1},
		{equalPlaces(0, 1, 2, 3, 4), []int{1, 3}, nil, 0},
		{equalPlaces(0, 1, 2, 3, 4), []int{0, 1, 2, 3}, nil, 4},
		{equalPlaces(0, 1, 2, 3, 4), []int{1, 3}, []int{0, 2}, 4},
		{equalPlaces(0, 0, 1, 1, 2), []int{0}, nil, 2},
		{equalPlaces(0, 0, 1, 1, 2), []int{0, 2}, nil, 4},
		{equalPlaces(0, 0, 1, 1, 2), []int{0, 2, 4}, nil, 1},
		{equalPlaces(0, 0, 1, 1, 2), []int{0, 4}, []int{2}, 3},
		{equalPlaces(0, 0, 1, 1, 2), []int{0, 4}, []int{3, 2}, 1},
		{equalPlaces(7, 7, 7, 7, 7), nil, nil, 0},
		{equalPlaces(7, 7, 7, 7, 7), []int{0}, nil, 1},
		{equalPlaces(7, 7, 7, 7, 7), []int{1, 2}, nil, 0},
		{equalPlaces(7, 7, 7, 7, 7), []int{0, 1, 2}, nil, 3},
		{equalPlaces(7, 7, 7, 7, 7), []int{0, 1, 2}, []int{3}, 4},
		{equalPlaces(1, 0, 1, 0, 1), []int{0}, nil, 1},
		{equalPlaces(1, 0, 1, 0, 1), []int{1}, nil, 0},
		{equalPlaces(1, 0, 1, 0, 1), []int{1}, []int{0}, 2},
		{equalPlaces(1, 0, 1, 0, 1), []int{0, 1}, nil, 2},
	} {
		checkPickSpare(t, c.l, c.members, c.avoid, c.want)
	}
}

// The Load alone is compared, neither the Capacity nor the room that is left.
func TestPickSpareComparesTheLoad(t *testing.T) {
	l := places([3]int{0, 9, 3}, [3]int{1, 3, 2}, [3]int{2, 9, 4}, [3]int{3, 2, 1}, [3]int{4, 9, 1})
	checkPickSpare(t, l, nil, nil, 3)
	checkPickSpare(t, l, nil, []int{3}, 4)
	checkPickSpare(t, l, nil, []int{3, 4}, 1)
	checkPickSpare(t, l, []int{1, 3, 4}, nil, 0)
	checkPickSpare(t, l, []int{0, 1, 3, 4}, nil, 2)
}

// A rack is taken if it is one of a member, whether the member has room or not. The
// rack of a server to avoid is not taken.
func TestPickSpareRacksOfMembersAlone(t *testing.T) {
	l := places([3]int{0, 0, 0}, [3]int{0, 9, 1}, [3]int{5, 9, 8}, [3]int{6, 9, 3}, [3]int{6, 9, 2})
	checkPickSpare(t, l, []int{0}, nil, 4)
	checkPickSpare(t, l, []int{0}, []int{4}, 3)
	checkPickSpare(t, l, []int{0}, []int{3, 4}, 2)
	checkPickSpare(t, l, []int{0}, []int{2, 3, 4}, 1)
	checkPickSpare(t, l, []int{0, 2, 3}, nil, 1)
	checkPickSpare(t, l, nil, []int{0}, 1)
	checkPickSpare(t, l, []int{2}, []int{3}, 1)
	checkPickSpare(t, l, []int{2}, []int{0, 1, 3}, 4)
}

func TestPickSpareWithoutRoom(t *testing.T) {
	for _, l := range [][]impl.Place{
		make([]impl.Place, 5),
		places([3]int{9, 9, 99}, [3]int{9, 9, 99}, [3]int{9, 9, 99}, [3]int{9, 9, 99}, [3]int{9, 9, 99}),
		places([3]int{0, 1, 1}, [3]int{1, 2, 2}, [3]int{2, 3, 4}, [3]int{3, 9, 9}, [3]int{4, 0, 0}),
	} {
		for _, members := range serverSets() {
			for _, avoid := range serverSets() {
				checkPickSpare(t, l, members, avoid, -1)
			}
		}
		// Only one server has room.
		for id := range 5 {
			roomy := slices.Clone(l)
			roomy[id] = impl.Place{Rack: id, Capacity: 9, Load: 8}
			for _, members := range serverSets() {
				want := id
				if slices.Contains(members, id) {
					want = -1
				}
				checkPickSpare(t, roomy, members, nil, want)
				checkPickSpare(t, roomy, members, []int{id}, -1)
				checkPickSpare(t, roomy, nil, members, want)
			}
		}
	}
}

func TestPickSpareWithAllServersNamed(t *testing.T) {
	every := []int{0, 1, 2, 3, 4}
	for _, l := range manyPlaces(2, 50) {
		for _, some := range serverSets() {
			checkPickSpare(t, l, every, some, -1)
			checkPickSpare(t, l, some, every, -1)
			checkPickSpare(t, l, some, impl.WithoutServers(every, some), -1)
		}
		checkPickSpare(t, l, nil, []int{4, 2, 0, 3, 1, 1}, -1)
	}
}

func TestPickSpareWithAllSets(t *testing.T) {
	for _, l := range manyPlaces(3, 200) {
		for _, members := range serverSets() {
			for _, avoid := range serverSets() {
				checkPickSpare(t, l, members, avoid, expectedSpare(l, members, avoid))
			}
		}
	}
}

// Any list of servers can be avoided.
func TestPickSpareAvoidsAnyList(t *testing.T) {
	mixed := mixedPlaces()
	for _, c := range []struct {
		members, avoid []int
		want           int
	}{
		{nil, []int{-1}, 3},
		{nil, []int{5}, 3},
		{nil, []int{-1, 5, 6, 64, 67, 256, 259}, 3},
		{nil, []int{3, 3}, 4},
		{nil, []int{4, 3}, 1},
		{nil, []int{5, 3, -1}, 4},
		{nil, []int{4, 4, 1, 3, 4}, 0},
		{[]int{3}, []int{4, 1, 4}, 0},
		{[]int{3}, []int{3, 3, 3}, 4},
		{[]int{3, 4}, []int{5, 4, 3, 2, 1}, 0},
		{[]int{3, 4}, []int{5, 4, 3, 2, 1, 0, -1}, -1},
		{nil, []int{math.MinInt, math.MaxInt}, 3},
		{nil, []int{math.MinInt, 3, math.MaxInt}, 4},
	} {
		checkPickSpare(t, mixed, c.members, c.avoid, c.want)
	}
	for _, l := range manyPlaces(4, 5) {
		for _, avoid := range slices.Concat(wrongLists(), listsOver([]int{-1, 0, 2, 4, 5}, 3)) {
			for _, members := range serverSets() {
				checkPickSpare(t, l, members, avoid, expectedSpare(l, members, avoid))
			}
		}
	}
}

func TestPickSpareWithInvalidArguments(t *testing.T) {
	avoids := slices.Concat([][]int{nil, {0}, {3}, {0, 1, 2, 3, 4}}, wrongLists()[:5])
	for _, l := range append(fewPlaces(), nil, make([]impl.Place, 4)) {
		for _, members := range wrongLists() {
			for _, avoid := range avoids {
				checkPickSpare(t, l, members, avoid, -1)
			}
		}
	}
	for _, l := range wrongPlaces() {
		for _, members := range [][]int{nil, {0}, {3, 4}, {0, 1, 2, 3, 4}, {5}, {1, 0}} {
			for _, avoid := range avoids {
				checkPickSpare(t, l, members, avoid, -1)
			}
		}
	}
}

// expectedPlan marks the servers of the plan in an array. The arguments are valid.
func expectedPlan(l []impl.Place, members []int, alive []int, want int) []int {
	var isDead, isPlanned [5]bool
	for id := range 5 {
		isDead[id] = !slices.Contains(alive, id)
		isPlanned[id] = slices.Contains(members, id) && !isDead[id]
	}
	marked := func(marks [5]bool) []int {
		var ids []int
		for id, mark := range marks {
			if mark {
				ids = append(ids, id)
			}
		}
		return ids
	}
	for len(marked(isPlanned)) < want {
		spare := expectedSpare(l, marked(isPlanned), marked(isDead))
		if spare < 0 {
			break
		}
		isPlanned[spare] = true
	}
	return marked(isPlanned)
}

func checkPlanMembers(t *testing.T, l []impl.Place, members []int, alive []int, wanted int, want []int) {
	t.Helper()
	if got := impl.PlanMembers(l, members, alive, wanted); !slices.Equal(got, want) {
		t.Fatalf("PlanMembers(%v, %v, %v, %d) = %v, want %v", l, members, alive, wanted, got, want)
	}
}

func TestPlanMembersExamples(t *testing.T) {
	mixed, every := mixedPlaces(), []int{0, 1, 2, 3, 4}
	for _, c := range []struct {
		members, alive []int
		wanted         int
		want           []int
	}{
		// Members that are alive stay, with and without room, wanted or not.
		{[]int{0, 1}, every, 2, []int{0, 1}},
		{[]int{0, 1}, every, 1, []int{0, 1}},
		{[]int{0, 1}, every, 0, []int{0, 1}},
		{[]int{2}, every, 1, []int{2}},
		{[]int{2}, []int{2}, 5, []int{2}},
		{every, every, 0, every},
		{every, every, 5, every},
		{every, []int{1, 2}, 2, []int{1, 2}},
		// Members that are not alive are replaced.
		{[]int{0, 2}, []int{0, 1, 3, 4}, 3, []int{0, 3, 4}},
		{[]int{0, 1}, []int{1, 2, 3, 4}, 2, []int{1, 3}},
		{[]int{0, 1}, []int{2, 3, 4}, 2, []int{3, 4}},
		{[]int{0, 1}, []int{2, 3, 4}, 0, nil},
		{[]int{3, 4}, []int{0, 1, 2}, 1, []int{1}},
		{[]int{3, 4}, []int{0, 1, 2}, 3, []int{0, 1}},
		{[]int{3, 4}, []int{2}, 3, nil},
		// Servers are added one by one: each of them takes its rack.
		{nil, every, 0, nil},
		{nil, every, 1, []int{3}},
		{nil, every, 2, []int{3, 4}},
		{nil, every, 3, []int{1, 3, 4}},
		{nil, every, 4, []int{0, 1, 3, 4}},
		{nil, every, 5, []int{0, 1, 3, 4}},
		{[]int{2}, every, 5, every},
		{[]int{4}, every, 3, []int{1, 3, 4}},
		{[]int{4}, []int{0, 1, 4}, 3, []int{0, 1, 4}},
		{[]int{1}, []int{0, 1, 2, 3}, 3, []int{0, 1, 3}},
		// Spares that are not alive are not added.
		{[]int{0}, []int{0}, 3, []int{0}},
		{[]int{0}, []int{0, 2}, 3, []int{0}},
		{[]int{0}, []int{0, 2, 4}, 3, []int{0, 4}},
		{nil, nil, 5, nil},
		{every, nil, 5, nil},
		{nil, []int{2}, 5, nil},
		{nil, []int{0}, 2, []int{0}},
	} {
		checkPlanMembers(t, mixed, c.members, c.alive, c.wanted, c.want)
	}
}

// Servers with equal Load are added by the rack and the number.
func TestPlanMembersWithEqualLoad(t *testing.T) {
	every := []int{0, 1, 2, 3, 4}
	for _, c := range []struct {
		l              []impl.Place
		members, alive []int
		wanted         int
		want           []int
	}{
		{equalPlaces(0, 1, 2, 3, 4), nil, every, 3, []int{0, 1, 2}},
		{equalPlaces(0, 0, 1, 1, 2), nil, every, 3, []int{0, 2, 4}},
		{equalPlaces(0, 0, 1, 1, 2), nil, every, 4, []int{0, 1, 2, 4}},
		{equalPlaces(0, 0, 0, 0, 2), nil, every, 2, []int{0, 4}},
		{equalPlaces(0, 0, 0, 0, 2), nil, every, 3, []int{0, 1, 4}},
		{equalPlaces(0, 0, 0, 0, 2), []int{3}, every, 3, []int{0, 3, 4}},
		{equalPlaces(0, 0, 0, 0, 2), []int{3, 4}, every, 3, []int{0, 3, 4}},
		{equalPlaces(0, 0, 0, 0, 2), []int{3, 4}, []int{0, 1, 2, 3}, 2, []int{0, 3}},
		{equalPlaces(7, 7, 7, 7, 7), []int{2}, every, 3, []int{0, 1, 2}},
		{equalPlaces(7, 7, 7, 7, 7), []int{2}, []int{2, 3, 4}, 2, []int{2, 3}},
		{equalPlaces(1, 0, 1, 0, 1), nil, every, 2, []int{0, 1}},
		{equalPlaces(1, 0, 1, 0, 1), []int{4}, every, 2, []int{1, 4}},
		{equalPlaces(1, 0, 1, 0, 1), []int{4}, every, 3, []int{0, 1, 4}},
		{equalPlaces(1, 0, 1, 0, 1), []int{4}, []int{0, 2, 4}, 2, []int{0, 4}},
	} {
		checkPlanMembers(t, c.l, c.members, c.alive, c.wanted, c.want)
	}
}

func TestPlanMembersWithAllSets(t *testing.T) {
	for _, l := range manyPlaces(5, 20) {
		for _, members := range serverSets() {
			for _, alive := range serverSets() {
				for wanted := range 6 {
					checkPlanMembers(t, l, members, alive, wanted, expectedPlan(l, members, alive, wanted))
				}
			}
		}
	}
}

// checkPlan checks promise 5 and the end of the plan: there are at least wanted
// servers, or no server that is alive and has room is left. More servers than wanted
// were members before.
func checkPlan(t *testing.T, l []impl.Place, members []int, alive []int, wanted int) {
	t.Helper()
	plan := impl.PlanMembers(l, members, alive, wanted)
	if !impl.AreServers(plan) {
		t.Fatalf("PlanMembers(%v, %v, %v, %d) = %v: no set of servers", l, members, alive, wanted, plan)
	}
	added := 0
	for id, p := range l {
		isPlanned, isAlive, hasRoom := slices.Contains(plan, id), slices.Contains(alive, id), p.Load < p.Capacity
		isKept := slices.Contains(members, id) && isAlive
		switch {
		case isKept && !isPlanned:
			t.Fatalf("PlanMembers(%v, %v, %v, %d) = %v: drops the member %d", l, members, alive, wanted, plan, id)
		case isPlanned && !isKept && (!isAlive || !hasRoom):
			t.Fatalf("PlanMembers(%v, %v, %v, %d) = %v: adds %d", l, members, alive, wanted, plan, id)
		case !isPlanned && isAlive && hasRoom && len(plan) < wanted:
			t.Fatalf("PlanMembers(%v, %v, %v, %d) = %v: could add %d", l, members, alive, wanted, plan, id)
		case isPlanned && !isKept:
			added++
		}
	}
	if added > 0 && len(plan) > wanted {
		t.Fatalf("PlanMembers(%v, %v, %v, %d) = %v: adds too many", l, members, alive, wanted, plan)
	}
}

func TestPlanMembersKeepsMembersAndAddsServersWithRoom(t *testing.T) {
	for _, l := range manyPlaces(6, 40) {
		for _, members := range serverSets() {
			for _, alive := range serverSets() {
				for wanted := range 6 {
					checkPlan(t, l, members, alive, wanted)
				}
			}
		}
	}
}

// With the members that are alive as members, the same plan comes out; with as many
// wanted as these are, or fewer, it consists of them.
func TestPlanMembersOfThoseAlive(t *testing.T) {
	for _, l := range manyPlaces(7, 10) {
		for _, members := range serverSets() {
			for _, alive := range serverSets() {
				kept := impl.CommonServers(members, alive)
				for wanted := range 6 {
					want := expectedPlan(l, kept, alive, wanted)
					checkPlanMembers(t, l, members, alive, wanted, want)
					if wanted <= len(kept) {
						checkPlanMembers(t, l, members, alive, wanted, kept)
					}
				}
			}
		}
	}
}

func TestPlanMembersWithInvalidWant(t *testing.T) {
	for _, l := range fewPlaces() {
		for _, wanted := range append(farNumbers(), 6, 7, 8, 10, 64, 99) {
			for _, members := range serverSets() {
				checkPlanMembers(t, l, members, []int{0, 1, 2, 3, 4}, wanted, nil)
				checkPlanMembers(t, l, []int{1, 3}, members, wanted, nil)
			}
		}
	}
}

func TestPlanMembersWithInvalidLists(t *testing.T) {
	sets := [][]int{nil, {}, {0}, {4}, {0, 1}, {1, 3}, {0, 1, 2, 3, 4}}
	for wanted := -1; wanted <= 6; wanted++ {
		for _, set := range sets {
			for _, wrong := range wrongLists() {
				for _, l := range fewPlaces() {
					checkPlanMembers(t, l, wrong, set, wanted, nil)
					checkPlanMembers(t, l, set, wrong, wanted, nil)
				}
				checkPlanMembers(t, mixedPlaces(), wrong, wrong, wanted, nil)
				checkPlanMembers(t, nil, wrong, wrong, wanted, nil)
			}
			for _, l := range wrongPlaces() {
				checkPlanMembers(t, l, set, set, wanted, nil)
				checkPlanMembers(t, l, set, []int{0, 1, 2, 3, 4}, wanted, nil)
				checkPlanMembers(t, l, []int{0, 1, 2, 3, 4}, set, wanted, nil)
			}
		}
	}
}

func TestIsSpreadExamples(t *testing.T) {
	for _, c := range []struct {
		l       []impl.Place
		members []int
		want    bool
	}{
		{mixedPlaces(), nil, true},
		{mixedPlaces(), []int{}, true},
		{mixedPlaces(), []int{0}, true},
		{mixedPlaces(), []int{2}, true},
		{mixedPlaces(), []int{4}, true},
		{mixedPlaces(), []int{0, 1}, false},
		{mixedPlaces(), []int{2, 3}, false},
		{mixedPlaces(), []int{0, 2}, true},
		{mixedPlaces(), []int{1, 3, 4}, true},
		{mixedPlaces(), []int{0, 1, 4}, false},
		{mixedPlaces(), []int{0, 2, 3, 4}, false},
		{mixedPlaces(), []int{0, 1, 2, 3, 4}, false},
		{equalPlaces(0, 1, 2, 3, 4), []int{0, 1, 2, 3, 4}, true},
		{equalPlaces(9, 0, 8, 1, 7), []int{0, 1, 2, 3, 4}, true},
		{equalPlaces(0, 1, 2, 3, 0), []int{0, 1, 2, 3, 4}, false},
		{equalPlaces(0, 1, 2, 3, 0), []int{0, 1, 2, 3}, true},
		{equalPlaces(0, 1, 2, 3, 0), []int{1, 2, 3, 4}, true},
		{equalPlaces(7, 7, 7, 7, 7), nil, true},
		{equalPlaces(7, 7, 7, 7, 7), []int{3}, true},
		{equalPlaces(7, 7, 7, 7, 7), []int{3, 4}, false},
		{equalPlaces(7, 7, 7, 7, 7), []int{0, 1, 2, 3, 4}, false},
		{equalPlaces(1, 0, 1, 0, 1), []int{0, 1}, true},
		{equalPlaces(1, 0, 1, 0, 1), []int{0, 2}, false},
		{equalPlaces(1, 0, 1, 0, 1), []int{0, 1, 2}, false},
	} {
		if got := impl.IsSpread(c.l, c.members); got != c.want {
			t.Errorf("IsSpread(%v, %v) = %v", c.l, c.members, got)
		}
	}
}

func TestIsSpreadOfAllSets(t *testing.T) {
	for _, l := range manyPlaces(8, 500) {
		for _, members := range serverSets() {
			want := true
			for _, a := range members {
				for _, b := range members {
					want = want && (a == b || l[a].Rack != l[b].Rack)
				}
			}
			if got := impl.IsSpread(l, members); got != want {
				t.Fatalf("IsSpread(%v, %v) = %v", l, members, got)
			}
		}
	}
}

// Without members, invalid places are not spread either.
func TestIsSpreadOfInvalidArguments(t *testing.T) {
	for _, l := range wrongPlaces() {
		for _, members := range [][]int{nil, {}, {0}, {0, 4}, {1, 2, 3}, {0, 1, 2, 3, 4}} {
			if impl.IsSpread(l, members) {
				t.Errorf("IsSpread(%v, %v) = true", l, members)
			}
		}
	}
	for _, l := range append(fewPlaces(), nil, make([]impl.Place, 6)) {
		for _, members := range wrongLists() {
			if impl.IsSpread(l, members) {
				t.Errorf("IsSpread(%v, %v) = true", l, members)
			}
		}
	}
}

func TestCountMovesExamples(t *testing.T) {
	for _, c := range []struct {
		before, after []int
		want          int
	}{
		{nil, nil, 0},
		{[]int{}, []int{}, 0},
		{nil, []int{}, 0},
		{[]int{0, 1, 2}, nil, 0},
		{nil, []int{0, 1, 2}, 3},
		{nil, []int{0, 1, 2, 3, 4}, 5},
		{[]int{0, 1, 2, 3, 4}, []int{}, 0},
		{[]int{0, 2}, []int{0, 2}, 0},
		{[]int{0, 1, 2, 3, 4}, []int{0, 1, 2, 3, 4}, 0},
		{[]int{0, 2}, []int{0, 3, 4}, 2},
		{[]int{0, 3, 4}, []int{0, 2}, 1},
		{[]int{0, 1}, []int{2, 3, 4}, 3},
		{[]int{2, 3, 4}, []int{0, 1}, 2},
		{[]int{0, 1}, []int{0}, 0},
		{[]int{0}, []int{0, 1}, 1},
		// A server counts once, wherever and however often it is named.
		{nil, []int{3, 3}, 1},
		{nil, []int{3, 1, 3, 1, 3}, 2},
		{[]int{3, 3}, []int{3, 3, 3}, 0},
		{[]int{3}, []int{3, 3, 4, 4}, 1},
		{[]int{3, 3, 3}, []int{3}, 0},
		{[]int{3, 3, 3}, []int{4}, 1},
		{[]int{4, 2, 0}, []int{0, 2, 4}, 0},
		{[]int{0, 2, 4}, []int{4, 2, 0}, 0},
		{[]int{4, 0}, []int{3, 4, 1}, 2},
		{[]int{1, 0, 1}, []int{2, 0, 2, 1, 0}, 1},
		{[]int{4, 3, 2, 1, 0}, []int{0, 1, 2, 3, 4}, 0},
		// As for WithoutServers, any number counts.
		{nil, []int{-1, 5}, 2},
		{[]int{5}, []int{5, 4, 5}, 1},
		{[]int{-1, 64}, []int{0, -1}, 1},
		{[]int{math.MinInt}, []int{math.MaxInt, math.MinInt, math.MaxInt}, 1},
	} {
		if got := impl.CountMoves(c.before, c.after); got != c.want {
			t.Errorf("CountMoves(%v, %v) = %d, want %d", c.before, c.after, got, c.want)
		}
	}
}

func TestCountMovesOfAllShortLists(t *testing.T) {
	lists := listsOver([]int{0, 1, 2, 3, 4}, 3)
	for _, before := range lists {
		for _, after := range lists {
			want := 0
			for id := range 5 {
				if slices.Contains(after, id) && !slices.Contains(before, id) {
					want++
				}
			}
			if got := impl.CountMoves(before, after); got != want {
				t.Fatalf("CountMoves(%v, %v) = %d, want %d", before, after, got, want)
			}
		}
	}
}

// From the members to a plan, the servers that the plan adds are moved.
func TestCountMovesOfPlans(t *testing.T) {
	for _, l := range manyPlaces(9, 10) {
		for _, members := range serverSets() {
			for _, alive := range serverSets() {
				kept := impl.CommonServers(members, alive)
				plan := impl.PlanMembers(l, members, alive, 3)
				if got, want := impl.CountMoves(members, plan), len(plan)-len(kept); got != want {
					t.Fatalf("CountMoves(%v, %v) = %d, want %d", members, plan, got, want)
				}
			}
		}
	}
}

// roomyPlaces returns the list as a part of a longer one, and that one.
func roomyPlaces(l []impl.Place) ([]impl.Place, []impl.Place) {
	whole := append(slices.Clone(l), mixedPlaces()...)
	return whole[:len(l)], whole
}

// checkKeepsArguments calls all functions of the chapter, spoils the lists that they
// return, and looks for changes of the arguments.
func checkKeepsArguments(t *testing.T, l []impl.Place, a []int, b []int) {
	t.Helper()
	l, wholeL := roomyPlaces(l)
	a, wholeA := withSpareCapacity(a)
	b, wholeB := withSpareCapacity(b)
	beforeL, beforeA, beforeB := slices.Clone(wholeL), slices.Clone(wholeA), slices.Clone(wholeB)
	impl.ArePlaces(l)
	for id := -1; id <= 5; id++ {
		impl.HasRoom(l, id)
	}
	spoilList(impl.RacksOf(l, a))
	impl.PickSpare(l, a, b)
	for wanted := -1; wanted <= 6; wanted++ {
		spoilList(impl.PlanMembers(l, a, b, wanted))
	}
	impl.IsSpread(l, a)
	impl.CountMoves(a, b)
	if !slices.Equal(wholeL, beforeL) || !slices.Equal(wholeA, beforeA) || !slices.Equal(wholeB, beforeB) {
		t.Errorf("the arguments %v, %v and %v have become %v, %v and %v", beforeL, beforeA, beforeB, wholeL, wholeA, wholeB)
	}
}

func TestPlacementKeepsItsArguments(t *testing.T) {
	lists := [][]int{
		nil, {0}, {4}, {0, 1}, {1, 3}, {0, 1, 2, 3, 4},
		{4, 3, 2, 1, 0}, {3, 3}, {3, 0, 3, 1}, {-1}, {5, 0}, {2, 1, 9},
	}
	for _, l := range append(fewPlaces(), nil, mixedPlaces()[:4], append(mixedPlaces(), impl.Place{})) {
		for _, a := range lists {
			for _, b := range lists {
				checkKeepsArguments(t, l, a, b)
			}
		}
	}
}

// A result stays as it is when an argument or another result changes.
func TestPlacementReturnsNewMemory(t *testing.T) {
	l, members, alive := mixedPlaces(), []int{0, 2}, []int{0, 1, 3, 4}
	racks, otherRacks := impl.RacksOf(l, members), impl.RacksOf(l, members)
	plan, otherPlan := impl.PlanMembers(l, members, alive, 3), impl.PlanMembers(l, members, alive, 3)
	kept, otherKept := impl.PlanMembers(l, members, members, 2), impl.PlanMembers(l, members, members, 2)
	spoilList(otherRacks)
	spoilList(otherPlan)
	spoilList(otherKept)
	spoilList(members)
	spoilList(alive)
	clear(l)
	if !slices.Equal(racks, []int{0, 1}) || !slices.Equal(plan, []int{0, 3, 4}) || !slices.Equal(kept, []int{0, 2}) {
		t.Errorf("the results have become %v, %v and %v", racks, plan, kept)
	}
	l, members, alive = mixedPlaces(), []int{0, 2}, []int{0, 1, 3, 4}
	if got := impl.RacksOf(l, members); !slices.Equal(got, racks) {
		t.Errorf("RacksOf returns %v the next time", got)
	}
	if got := impl.PlanMembers(l, members, alive, 3); !slices.Equal(got, plan) {
		t.Errorf("PlanMembers returns %v the next time", got)
	}
}
