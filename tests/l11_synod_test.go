package tests

import (
	"math"
	"math/rand/v2"
	"runtime"
	"slices"
	"sync"
	"testing"
	"time"

	"loop.example/g01926/impl"
)

// The tests of this file check promise 6: at most one value is chosen, whatever the
// masters do. A model in the tests performs each proposal step by step, and the
// promise itself is checked in all states that a few ballots and values can reach and
// in long random runs.

func propose(ballot int, first []int, second []int, value impl.Config) impl.Proposal {
	return impl.Proposal{Ballot: ballot, First: first, Second: second, Value: value}
}

func everyMaster() []int {
	return []int{0, 1, 2}
}

// masterSets returns all sets of masters in ascending order.
func masterSets() [][]int {
	return [][]int{nil, {0}, {1}, {2}, {0, 1}, {0, 2}, {1, 2}, {0, 1, 2}}
}

// masterLists returns these sets in other orders as well, lists that name a master
// several times, and lists with numbers that are no index of an acceptor, also if some
// of their bits were lost.
func masterLists() [][]int {
	return append(masterSets(),
		[]int{}, []int{1, 0}, []int{2, 0}, []int{2, 1}, []int{0, 2, 1}, []int{1, 0, 2}, []int{1, 2, 0}, []int{2, 0, 1}, []int{2, 1, 0},
		[]int{0, 0}, []int{1, 1}, []int{2, 2}, []int{2, 2, 2}, []int{0, 0, 1}, []int{1, 0, 1, 0, 1}, []int{2, 2, 1, 1}, []int{2, 1, 0, 0, 1, 2}, make([]int, 1000),
		[]int{-1}, []int{3}, []int{-1, 3}, []int{0, -1}, []int{3, 0}, []int{0, 3, -1, 0}, []int{-1, 1, 3, 2}, []int{3, 2, 1, 0, -1}, []int{4, 5, 6},
		[]int{256, 257, 258}, []int{1 << 32, 1<<32 + 1, 1<<32 + 2}, []int{-3, -2, -1}, []int{math.MinInt, math.MaxInt}, []int{math.MaxInt, 2, math.MinInt, 0},
	)
}

func sameAcceptors(a []impl.Acceptor, b []impl.Acceptor) bool {
	return slices.EqualFunc(a, b, sameAcceptor)
}

func copyOfAcceptors(l []impl.Acceptor) []impl.Acceptor {
	var copied []impl.Acceptor
	for _, a := range l {
		copied = append(copied, copyOfAcceptor(a))
	}
	return copied
}

func copyOfProposal(p impl.Proposal) impl.Proposal {
	p.First, p.Second, p.Value = slices.Clone(p.First), slices.Clone(p.Second), copyOfConfig(p.Value)
	return p
}

func isZeroConfig(c impl.Config) bool {
	return sameConfig(c, impl.Config{})
}

// triples returns all lists of three of the acceptors.
func triples(acceptors ...impl.Acceptor) [][]impl.Acceptor {
	var all [][]impl.Acceptor
	for _, a := range acceptors {
		for _, b := range acceptors {
			for _, c := range acceptors {
				all = append(all, []impl.Acceptor{a, b, c})
			}
		}
	}
	return all
}

// fewCouncils returns lists of MaxMasters valid acceptors that have promised and
// accepted nothing, the same, and different things.
func fewCouncils() [][]impl.Acceptor {
	v, w, x := config(2, 0, "01", "none"), config(2, 1, "1", "04"), config(20, 4, "4", "0123")
	none := impl.Config{}
	return [][]impl.Acceptor{
		{acceptor(0, 0, none), acceptor(0, 0, none), acceptor(0, 0, none)},
		{acceptor(5, 0, none), acceptor(5, 0, none), acceptor(5, 0, none)},
		{acceptor(4, 0, none), acceptor(5, 0, none), acceptor(6, 0, none)},
		{acceptor(99, 0, none), acceptor(98, 0, none), acceptor(99, 0, none)},
		{acceptor(5, 0, none), acceptor(5, 4, v), acceptor(0, 0, none)},
		{acceptor(5, 5, v), acceptor(4, 4, w), acceptor(5, 0, none)},
		{acceptor(5, 1, v), acceptor(5, 2, w), acceptor(5, 3, x)},
		{acceptor(5, 3, v), acceptor(5, 2, w), acceptor(5, 1, x)},
		{acceptor(5, 2, v), acceptor(5, 3, w), acceptor(5, 2, x)},
		{acceptor(5, 3, v), acceptor(5, 3, w), acceptor(5, 3, x)},
		{acceptor(4, 4, w), acceptor(5, 5, v), acceptor(5, 5, v)},
		{acceptor(5, 5, v), acceptor(5, 5, v), acceptor(6, 4, w)},
		{acceptor(5, 5, v), acceptor(6, 5, v), acceptor(7, 5, v)},
		{acceptor(98, 1, v), acceptor(99, 99, w), acceptor(97, 97, w)},
		{acceptor(99, 99, x), acceptor(99, 99, x), acceptor(99, 99, x)},
	}
}

// wrongCouncils returns lists of fewer and more than MaxMasters valid acceptors, and
// lists of MaxMasters of which one or more are not valid.
func wrongCouncils() [][]impl.Acceptor {
	wrong := [][]impl.Acceptor{nil, {}, make([]impl.Acceptor, 1), make([]impl.Acceptor, 2), make([]impl.Acceptor, 4), make([]impl.Acceptor, 6), make([]impl.Acceptor, 1000)}
	for _, l := range fewCouncils() {
		wrong = append(wrong, l[:0], l[:1], l[:2], l[1:], append(slices.Clone(l), l[0]), append(slices.Clone(l), impl.Acceptor{}), append(slices.Clone(l), l...))
	}
	for i, a := range wrongAcceptors() {
		others := fewCouncils()[i%len(fewCouncils())]
		for place := range 3 {
			l := slices.Clone(others)
			l[place] = a
			wrong = append(wrong, l)
		}
		wrong = append(wrong, []impl.Acceptor{a, a, others[2]}, []impl.Acceptor{others[0], a, a}, []impl.Acceptor{a, a, a})
	}
	return wrong
}

// fewWrongCouncils returns lists that are wrong in each of these ways.
func fewWrongCouncils() [][]impl.Acceptor {
	var few [][]impl.Acceptor
	for i, l := range wrongCouncils() {
		if i < 100 || i%17 == 0 {
			few = append(few, l)
		}
	}
	return few
}

// expectedProposal performs a valid proposal at valid acceptors, one after another.
func expectedProposal(l []impl.Acceptor, p impl.Proposal) ([]impl.Acceptor, impl.Config, bool) {
	after := slices.Clone(l)
	promises, votes, greatest, value := 0, 0, 0, p.Value
	for i, a := range l {
		if !slices.Contains(p.First, i) || p.Ballot <= a.Promised {
			continue
		}
		after[i].Promised = p.Ballot
		promises++
		if a.Ballot > greatest {
			greatest, value = a.Ballot, a.Value
		}
	}
	if promises < 2 {
		return after, impl.Config{}, false
	}
	for i, a := range after {
		if slices.Contains(p.Second, i) && p.Ballot >= a.Promised {
			after[i] = acceptor(p.Ballot, p.Ballot, value)
			votes++
		}
	}
	if votes < 2 {
		return after, impl.Config{}, false
	}
	return after, value, true
}

// checkProposal compares the answer of RunProposal with the expected one; the caller
// knows whether the acceptors and the Value of the proposal are valid.
func checkProposal(t *testing.T, l []impl.Acceptor, p impl.Proposal, valid bool) ([]impl.Acceptor, impl.Config, bool) {
	t.Helper()
	want, wantedValue, wanted := l, impl.Config{}, false
	if valid && inRange(p.Ballot) {
		want, wantedValue, wanted = expectedProposal(l, p)
	}
	got, value, ok := impl.RunProposal(l, p)
	if !sameAcceptors(got, want) || !sameConfig(value, wantedValue) || ok != wanted {
		t.Fatalf("RunProposal(%v, %v) = %v, %v, %v, want %v, %v, %v", l, p, got, value, ok, want, wantedValue, wanted)
	}
	if valid && !impl.AreAcceptors(got) {
		t.Fatalf("AreAcceptors of RunProposal(%v, %v) = false", l, p)
	}
	if chosen, is := impl.ChosenValue(got); ok && (!is || !sameConfig(chosen, value)) {
		t.Fatalf("RunProposal(%v, %v) returns %v, but ChosenValue %v, %v", l, p, value, chosen, is)
	}
	return got, value, ok
}

func TestSynodConstants(t *testing.T) {
	if impl.MaxMasters != 3 {
		t.Errorf("MaxMasters is %d", impl.MaxMasters)
	}
}

func TestAreAcceptorsCountsThem(t *testing.T) {
	value := config(2, 0, "01", "4")
	for _, a := range []impl.Acceptor{{}, acceptor(99, 0, impl.Config{}), acceptor(5, 3, value), acceptor(99, 99, value)} {
		for _, count := range []int{0, 1, 2, 3, 4, 5, 6, 9, 99, 256, 259} {
			if got := impl.AreAcceptors(slices.Repeat([]impl.Acceptor{a}, count)); got != (count == 3) {
				t.Errorf("AreAcceptors of %d times %v = %v", count, a, got)
			}
		}
	}
	if impl.AreAcceptors(nil) || impl.AreAcceptors([]impl.Acceptor{}) {
		t.Error("AreAcceptors of no acceptors = true")
	}
}

func TestAreAcceptorsAcceptsValidOnes(t *testing.T) {
	for _, l := range append(fewCouncils(), triples(fewAcceptors()...)...) {
		if !impl.AreAcceptors(l) {
			t.Fatalf("AreAcceptors(%v) = false", l)
		}
	}
}

// Each one of the acceptors in turn is not valid.
func TestAreAcceptorsChecksEachOne(t *testing.T) {
	for _, a := range wrongAcceptors() {
		for _, valid := range fewCouncils() {
			for place := range 3 {
				l := slices.Clone(valid)
				l[place] = a
				if impl.AreAcceptors(l) {
					t.Fatalf("AreAcceptors(%v) = true, although the one with the index %d is not valid", l, place)
				}
			}
		}
	}
}

func TestAreAcceptorsRejects(t *testing.T) {
	for _, l := range wrongCouncils() {
		if impl.AreAcceptors(l) {
			t.Fatalf("AreAcceptors(%v) = true", l)
		}
	}
}

func TestNewAcceptors(t *testing.T) {
	l := impl.NewAcceptors()
	if len(l) != 3 || !impl.AreAcceptors(l) {
		t.Fatalf("NewAcceptors() = %v", l)
	}
	for i, a := range l {
		if !sameAcceptor(a, impl.Acceptor{}) {
			t.Errorf("the acceptor with the index %d of NewAcceptors() is %v", i, a)
		}
	}
	if value, ok := impl.ChosenValue(l); ok {
		t.Errorf("ChosenValue of NewAcceptors() = %v, true", value)
	}
}

// Each call has memory of its own, also behind the end of the list.
func TestNewAcceptorsReturnsNewMemory(t *testing.T) {
	a, b := impl.NewAcceptors(), impl.NewAcceptors()
	spoilAcceptors(a)
	longer := append(a, acceptor(7, 7, config(2, 0, "01", "4")))
	other := append(b, impl.Acceptor{})
	if !sameAcceptors(other, make([]impl.Acceptor, 4)) || len(longer) != 4 {
		t.Errorf("a change of one result of NewAcceptors changes another one to %v", other)
	}
	if c := impl.NewAcceptors(); !sameAcceptors(c, make([]impl.Acceptor, 3)) {
		t.Errorf("NewAcceptors() = %v after a change of its result", c)
	}
}

func TestRunProposalExamples(t *testing.T) {
	v, w, x := config(2, 0, "01", "none"), config(2, 1, "1", "04"), config(3, 2, "024", "13")
	none := impl.Config{}
	fresh := func() []impl.Acceptor { return make([]impl.Acceptor, 3) }
	for _, c := range []struct {
		name  string
		l     []impl.Acceptor
		p     impl.Proposal
		want  []impl.Acceptor
		value impl.Config
		ok    bool
	}{
		{
			"all agree", fresh(), propose(1, []int{0, 1, 2}, []int{0, 1, 2}, v),
			[]impl.Acceptor{acceptor(1, 1, v), acceptor(1, 1, v), acceptor(1, 1, v)}, v, true,
		},
		{
			"exactly two promise and accept", fresh(), propose(99, []int{0, 2}, []int{0, 2}, v),
			[]impl.Acceptor{acceptor(99, 99, v), acceptor(0, 0, none), acceptor(99, 99, v)}, v, true,
		},
		{
			"one accepts that has not promised", fresh(), propose(4, []int{0, 1}, []int{1, 2}, v),
			[]impl.Acceptor{acceptor(4, 0, none), acceptor(4, 4, v), acceptor(4, 4, v)}, v, true,
		},
		{
			"one promises", fresh(), propose(4, []int{1}, []int{0, 1, 2}, v),
			[]impl.Acceptor{acceptor(0, 0, none), acceptor(4, 0, none), acceptor(0, 0, none)}, none, false,
		},
		{
			"one promises twice", fresh(), propose(4, []int{1, 1, 1}, []int{0, 1, 2}, v),
			[]impl.Acceptor{acceptor(0, 0, none), acceptor(4, 0, none), acceptor(0, 0, none)}, none, false,
		},
		{
			"nobody is asked for a promise", fresh(), propose(4, nil, []int{0, 1, 2}, v),
			fresh(), none, false,
		},
		{
			"nobody is asked to accept", fresh(), propose(4, []int{0, 1}, nil, v),
			[]impl.Acceptor{acceptor(4, 0, none), acceptor(4, 0, none), acceptor(0, 0, none)}, none, false,
		},
		{
			"one accepts", fresh(), propose(4, []int{0, 1, 2}, []int{2}, v),
			[]impl.Acceptor{acceptor(4, 0, none), acceptor(4, 0, none), acceptor(4, 4, v)}, none, false,
		},
		{
			"one accepts twice", fresh(), propose(4, []int{0, 1, 2}, []int{0, 0}, v),
			[]impl.Acceptor{acceptor(4, 4, v), acceptor(4, 0, none), acceptor(4, 0, none)}, none, false,
		},
		{
			"numbers that are no index", fresh(), propose(4, []int{-1, 3, 0}, []int{0, 1, 2}, v),
			[]impl.Acceptor{acceptor(4, 0, none), acceptor(0, 0, none), acceptor(0, 0, none)}, none, false,
		},
		{
			"an index beside numbers that are none", fresh(), propose(4, []int{-1, 2, 3, 1}, []int{3, 0, -1, 1}, v),
			[]impl.Acceptor{acceptor(4, 4, v), acceptor(4, 4, v), acceptor(4, 0, none)}, v, true,
		},
		{
			"a promise of the same ballot is no new one",
			[]impl.Acceptor{acceptor(4, 0, none), acceptor(3, 0, none), acceptor(4, 0, none)}, propose(4, []int{0, 1, 2}, []int{0, 1, 2}, v),
			[]impl.Acceptor{acceptor(4, 0, none), acceptor(4, 0, none), acceptor(4, 0, none)}, none, false,
		},
		{
			"one that has promised the same ballot before accepts",
			[]impl.Acceptor{acceptor(4, 0, none), acceptor(3, 0, none), acceptor(0, 0, none)}, propose(4, []int{0, 1, 2}, []int{0, 1}, v),
			[]impl.Acceptor{acceptor(4, 4, v), acceptor(4, 4, v), acceptor(4, 0, none)}, v, true,
		},
		{
			"one that has promised more neither promises nor accepts",
			[]impl.Acceptor{acceptor(5, 0, none), acceptor(3, 0, none), acceptor(0, 0, none)}, propose(4, []int{0, 1, 2}, []int{0, 1}, v),
			[]impl.Acceptor{acceptor(5, 0, none), acceptor(4, 4, v), acceptor(4, 0, none)}, none, false,
		},
		{
			"the value of the one that has accepted something",
			[]impl.Acceptor{acceptor(3, 0, none), acceptor(3, 0, none), acceptor(3, 2, w)}, propose(4, []int{1, 2}, []int{0, 1}, v),
			[]impl.Acceptor{acceptor(4, 4, w), acceptor(4, 4, w), acceptor(4, 2, w)}, w, true,
		},
		{
			"the value of the greatest ballot",
			[]impl.Acceptor{acceptor(3, 1, w), acceptor(3, 3, x), acceptor(3, 2, v)}, propose(4, []int{0, 1, 2}, []int{0, 1, 2}, v),
			[]impl.Acceptor{acceptor(4, 4, x), acceptor(4, 4, x), acceptor(4, 4, x)}, x, true,
		},
		{
			"only the values of those that promise",
			[]impl.Acceptor{acceptor(3, 1, w), acceptor(3, 3, x), acceptor(3, 2, v)}, propose(4, []int{0, 2}, []int{0, 1, 2}, w),
			[]impl.Acceptor{acceptor(4, 4, v), acceptor(4, 4, v), acceptor(4, 4, v)}, v, true,
		},
		{
			"not the value of one that refuses the promise",
			[]impl.Acceptor{acceptor(3, 1, w), acceptor(4, 3, x), acceptor(3, 0, none)}, propose(4, []int{0, 1, 2}, []int{0, 1, 2}, v),
			[]impl.Acceptor{acceptor(4, 4, w), acceptor(4, 4, w), acceptor(4, 4, w)}, w, true,
		},
		{
			"not the value of the greatest promise",
			[]impl.Acceptor{acceptor(50, 1, w), acceptor(3, 3, x), acceptor(60, 2, v)}, propose(99, []int{0, 1, 2}, []int{0, 1}, v),
			[]impl.Acceptor{acceptor(99, 99, x), acceptor(99, 99, x), acceptor(99, 2, v)}, x, true,
		},
		{
			"the first one of several values with the greatest ballot",
			[]impl.Acceptor{acceptor(3, 1, v), acceptor(3, 3, w), acceptor(3, 3, x)}, propose(4, []int{2, 1, 0}, []int{2, 1}, v),
			[]impl.Acceptor{acceptor(4, 1, v), acceptor(4, 4, w), acceptor(4, 4, w)}, w, true,
		},
		{
			"ballot 0",
			[]impl.Acceptor{acceptor(0, 0, none), acceptor(3, 1, w), acceptor(0, 0, none)}, propose(0, []int{0, 1, 2}, []int{0, 1, 2}, v),
			[]impl.Acceptor{acceptor(0, 0, none), acceptor(3, 1, w), acceptor(0, 0, none)}, none, false,
		},
		{
			"ballot 100",
			[]impl.Acceptor{acceptor(0, 0, none), acceptor(3, 1, w), acceptor(0, 0, none)}, propose(100, []int{0, 1, 2}, []int{0, 1, 2}, v),
			[]impl.Acceptor{acceptor(0, 0, none), acceptor(3, 1, w), acceptor(0, 0, none)}, none, false,
		},
		{
			"a value that is not valid, although another one has been accepted",
			[]impl.Acceptor{acceptor(0, 0, none), acceptor(3, 1, w), acceptor(0, 0, none)}, propose(4, []int{0, 1, 2}, []int{0, 1, 2}, none),
			[]impl.Acceptor{acceptor(0, 0, none), acceptor(3, 1, w), acceptor(0, 0, none)}, none, false,
		},
		{
			"an acceptor that is not valid and not asked",
			[]impl.Acceptor{acceptor(0, 0, none), acceptor(0, 0, none), acceptor(0, 1, w)}, propose(4, []int{0, 1}, []int{0, 1}, v),
			[]impl.Acceptor{acceptor(0, 0, none), acceptor(0, 0, none), acceptor(0, 1, w)}, none, false,
		},
		{
			"two acceptors", make([]impl.Acceptor, 2), propose(4, []int{0, 1}, []int{0, 1}, v),
			make([]impl.Acceptor, 2), none, false,
		},
		{
			"four acceptors", make([]impl.Acceptor, 4), propose(4, []int{0, 1, 2, 3}, []int{0, 1, 2, 3}, v),
			make([]impl.Acceptor, 4), none, false,
		},
	} {
		got, value, ok := impl.RunProposal(c.l, c.p)
		if !sameAcceptors(got, c.want) || !sameConfig(value, c.value) || ok != c.ok {
			t.Errorf("%s: RunProposal(%v, %v) = %v, %v, %v, want %v, %v, %v", c.name, c.l, c.p, got, value, ok, c.want, c.value, c.ok)
		}
	}
}

// All pairs of lists, so that the masters that promise are others than those that
// accept, or the same ones in another order.
func TestRunProposalWithAllMasterLists(t *testing.T) {
	value := config(4, 3, "13", "024")
	for _, l := range fewCouncils() {
		for _, first := range masterLists() {
			for _, second := range masterLists() {
				for _, ballot := range []int{5, 6} {
					checkProposal(t, l, propose(ballot, first, second, value), true)
				}
			}
		}
	}
}

// What the masters do depends on the sets of the lists alone.
func TestRunProposalTakesListsAsSets(t *testing.T) {
	value := config(4, 3, "13", "024")
	asSet := func(l []int) []int {
		return slices.DeleteFunc(everyMaster(), func(i int) bool { return !slices.Contains(l, i) })
	}
	for _, l := range fewCouncils() {
		for _, first := range masterLists() {
			for _, second := range masterLists() {
				p := propose(6, first, second, value)
				a, x, ok := impl.RunProposal(l, p)
				b, y, isOk := impl.RunProposal(l, propose(6, asSet(first), asSet(second), value))
				if !sameAcceptors(a, b) || !sameConfig(x, y) || ok != isOk {
					t.Fatalf("RunProposal(%v, %v) = %v, %v, %v, and with the sets %v, %v, %v", l, p, a, x, ok, b, y, isOk)
				}
			}
		}
	}
}

func TestRunProposalWithEveryBallot(t *testing.T) {
	value := config(4, 3, "13", "024")
	for _, l := range fewCouncils() {
		for ballot := -3; ballot <= 103; ballot++ {
			checkProposal(t, l, propose(ballot, everyMaster(), everyMaster(), value), true)
			checkProposal(t, l, propose(ballot, []int{0, 2}, []int{1, 2}, value), true)
		}
		for _, a := range l {
			for _, ballot := range ballotsAround(a.Promised) {
				checkProposal(t, l, propose(ballot, everyMaster(), everyMaster(), value), true)
			}
		}
	}
}

// The ballot is below, equal to or above what each acceptor has promised, at the least
// ballots, in between and at the greatest ones.
func TestRunProposalBesideThePromises(t *testing.T) {
	value := config(4, 3, "13", "024")
	for _, ballot := range []int{1, 2, 50, 98, 99} {
		var around []impl.Acceptor
		for promised := max(ballot-1, 0); promised <= min(ballot+1, 99); promised++ {
			around = append(around, acceptor(promised, 0, impl.Config{}))
			if promised > 0 {
				around = append(around, acceptor(promised, promised, config(2, 1, "1", "04")))
			}
		}
		for _, l := range triples(around...) {
			for _, second := range masterSets() {
				checkProposal(t, l, propose(ballot, everyMaster(), second, value), true)
			}
		}
	}
}

// None, one, two or all acceptors have accepted something, with equal and with
// different ballots, and equal or different values.
func TestRunProposalAdoptsWhatWasAccepted(t *testing.T) {
	v, w, x := config(2, 0, "01", "none"), config(2, 1, "1", "04"), config(20, 4, "4", "0123")
	for _, l := range triples(
		acceptor(0, 0, impl.Config{}), acceptor(8, 0, impl.Config{}),
		acceptor(1, 1, v), acceptor(8, 1, w), acceptor(3, 2, v), acceptor(3, 3, w), acceptor(8, 3, v), acceptor(7, 7, x), acceptor(8, 7, w), acceptor(8, 8, x),
	) {
		for _, first := range masterSets() {
			for _, second := range masterSets() {
				checkProposal(t, l, propose(8, first, second, x), true)
				checkProposal(t, l, propose(9, first, second, v), true)
			}
		}
	}
}

func TestRunProposalWithEveryValue(t *testing.T) {
	for _, value := range configs() {
		checkProposal(t, make([]impl.Acceptor, 3), propose(1, everyMaster(), []int{0, 2}, value), true)
		l := []impl.Acceptor{acceptor(2, 2, value), acceptor(9, 1, config(2, 0, "01", "4")), acceptor(4, 0, impl.Config{})}
		checkProposal(t, l, propose(10, everyMaster(), []int{1, 2}, config(3, 1, "012", "4")), true)
	}
}

// A Value that is not valid is rejected even if it would not be used.
func TestRunProposalChecksTheValue(t *testing.T) {
	for _, value := range append(wrongConfigs(), fewWrongConfigs()...) {
		checkProposal(t, make([]impl.Acceptor, 3), propose(1, everyMaster(), everyMaster(), value), false)
		checkProposal(t, fewCouncils()[6], propose(6, everyMaster(), everyMaster(), value), false)
	}
	for _, l := range fewCouncils() {
		for _, value := range fewWrongConfigs() {
			for _, list := range [][]int{nil, {0}, {1, 2}, {0, 1, 2}} {
				for _, ballot := range []int{-1, 0, 1, 5, 6, 99, 100} {
					checkProposal(t, l, propose(ballot, list, everyMaster(), value), false)
				}
			}
		}
	}
}

func TestRunProposalOfWrongAcceptors(t *testing.T) {
	value := config(4, 3, "13", "024")
	for _, l := range wrongCouncils() {
		for _, ballot := range []int{-1, 0, 1, 6, 99, 100} {
			checkProposal(t, l, propose(ballot, everyMaster(), everyMaster(), value), false)
		}
		for _, list := range masterLists() {
			checkProposal(t, l, propose(99, list, list, value), false)
		}
		checkProposal(t, l, propose(99, everyMaster(), everyMaster(), impl.Config{}), false)
	}
}

// Lists that are empty, but not nil, count as the zero value.
func TestRunProposalTreatsEmptyAsNil(t *testing.T) {
	empty := impl.Config{Replicas: []int{}, Witnesses: []int{}}
	value := impl.Config{Epoch: 2, Replicas: []int{0}, Witnesses: []int{}}
	l := []impl.Acceptor{acceptor(0, 0, empty), acceptor(3, 0, empty), acceptor(3, 3, value)}
	for _, list := range [][]int{nil, {}, {0, 1}, {1, 2}} {
		for ballot := range 5 {
			checkProposal(t, l, propose(ballot, list, everyMaster(), value), true)
			checkProposal(t, l, propose(ballot, everyMaster(), list, value), true)
			checkProposal(t, l, propose(ballot, everyMaster(), list, empty), false)
		}
	}
}

// A majority of three is two: one is not enough in either step, and the third one makes
// no difference.
func TestMajorityIsTwo(t *testing.T) {
	value := config(2, 0, "01", "4")
	for _, first := range masterSets() {
		for _, second := range masterSets() {
			_, _, ok := impl.RunProposal(impl.NewAcceptors(), propose(1, first, second, value))
			if ok != (len(first) >= 2 && len(second) >= 2) {
				t.Errorf("the proposal to %v and then to %v returns %v", first, second, ok)
			}
		}
	}
	for _, voters := range masterSets() {
		l := impl.NewAcceptors()
		for _, i := range voters {
			l[i] = acceptor(1, 1, value)
		}
		if _, ok := impl.ChosenValue(l); ok != (len(voters) >= 2) {
			t.Errorf("ChosenValue after the votes of %v returns %v", voters, ok)
		}
	}
}

// checkChosen compares ChosenValue of valid acceptors with the value of two acceptors
// that agree in value and ballot.
func checkChosen(t *testing.T, l []impl.Acceptor) {
	t.Helper()
	want, wanted := impl.Config{}, false
	for _, pair := range [][2]int{{0, 1}, {0, 2}, {1, 2}} {
		a, b := l[pair[0]], l[pair[1]]
		if a.Ballot >= 1 && a.Ballot == b.Ballot && sameConfig(a.Value, b.Value) {
			want, wanted = a.Value, true
		}
	}
	if got, ok := impl.ChosenValue(l); !sameConfig(got, want) || ok != wanted {
		t.Fatalf("ChosenValue(%v) = %v, %v, want %v, %v", l, got, ok, want, wanted)
	}
}

func TestChosenValueExamples(t *testing.T) {
	v, w, x := config(2, 0, "01", "none"), config(2, 1, "1", "04"), config(3, 2, "024", "13")
	none := impl.Config{}
	for _, c := range []struct {
		name  string
		l     []impl.Acceptor
		value impl.Config
		ok    bool
	}{
		{"nothing", make([]impl.Acceptor, 3), none, false},
		{"only promises", []impl.Acceptor{acceptor(3, 0, none), acceptor(3, 0, none), acceptor(3, 0, none)}, none, false},
		{"one vote", []impl.Acceptor{acceptor(3, 0, none), acceptor(3, 3, v), acceptor(3, 0, none)}, none, false},
		{"two votes", []impl.Acceptor{acceptor(3, 3, v), acceptor(3, 0, none), acceptor(3, 3, v)}, v, true},
		{"two votes and a later promise", []impl.Acceptor{acceptor(3, 3, v), acceptor(99, 0, none), acceptor(50, 3, v)}, v, true},
		{"three votes", []impl.Acceptor{acceptor(99, 99, w), acceptor(99, 99, w), acceptor(99, 99, w)}, w, true},
		{"three votes and later promises", []impl.Acceptor{acceptor(4, 1, w), acceptor(2, 1, w), acceptor(9, 1, w)}, w, true},
		{"the same value with different ballots", []impl.Acceptor{acceptor(1, 1, v), acceptor(2, 2, v), acceptor(3, 3, v)}, none, false},
		{"the same value with two ballots and no third vote", []impl.Acceptor{acceptor(2, 1, v), acceptor(2, 2, v), acceptor(2, 0, none)}, none, false},
		{"the same value with ballots of which two are equal", []impl.Acceptor{acceptor(5, 4, v), acceptor(5, 5, v), acceptor(5, 4, v)}, v, true},
		{"different values with the same ballot", []impl.Acceptor{acceptor(3, 3, v), acceptor(3, 3, w), acceptor(3, 3, x)}, none, false},
		{"two equal values of three with the same ballot", []impl.Acceptor{acceptor(3, 3, x), acceptor(3, 3, w), acceptor(3, 3, w)}, w, true},
		{"a later vote for another value", []impl.Acceptor{acceptor(3, 3, v), acceptor(7, 7, w), acceptor(7, 3, v)}, v, true},
		{"two votes of two acceptors", []impl.Acceptor{acceptor(3, 3, v), acceptor(3, 3, v)}, none, false},
		{"four votes", slices.Repeat([]impl.Acceptor{acceptor(3, 3, v)}, 4), none, false},
		{"two votes and an acceptor that is not valid", []impl.Acceptor{acceptor(3, 3, v), acceptor(3, 3, v), acceptor(0, 1, v)}, none, false},
		{"votes with a value that is not valid", slices.Repeat([]impl.Acceptor{acceptor(3, 3, none)}, 3), none, false},
		{"values without a ballot", slices.Repeat([]impl.Acceptor{acceptor(3, 0, v)}, 3), none, false},
		{"votes with ballot 100", slices.Repeat([]impl.Acceptor{acceptor(100, 100, v)}, 3), none, false},
		{"no acceptors", nil, none, false},
	} {
		if value, ok := impl.ChosenValue(c.l); !sameConfig(value, c.value) || ok != c.ok {
			t.Errorf("%s: ChosenValue(%v) = %v, %v, want %v, %v", c.name, c.l, value, ok, c.value, c.ok)
		}
	}
}

func TestChosenValueOfAllTriples(t *testing.T) {
	v, w := config(2, 0, "01", "none"), config(2, 1, "1", "04")
	all := triples(
		acceptor(0, 0, impl.Config{}), acceptor(5, 0, impl.Config{}), acceptor(1, 1, v), acceptor(5, 1, w), acceptor(5, 1, v), acceptor(99, 1, w),
		acceptor(5, 5, v), acceptor(5, 5, w), acceptor(99, 5, w), acceptor(98, 98, v), acceptor(99, 99, v), acceptor(99, 99, w),
	)
	for _, l := range append(all, fewCouncils()...) {
		checkChosen(t, l)
	}
}

// Values that differ in one field alone are different values.
func TestChosenValueComparesEveryField(t *testing.T) {
	value := config(3, 0, "01", "4")
	for _, other := range []impl.Config{config(2, 0, "01", "4"), config(4, 0, "01", "4"), config(3, 1, "01", "4"), config(3, 0, "0", "4"), config(3, 0, "012", "4"), config(3, 0, "02", "4"), config(3, 0, "01", "none"), config(3, 0, "01", "3"), config(3, 0, "01", "34")} {
		for place := range 3 {
			l := slices.Repeat([]impl.Acceptor{acceptor(6, 6, value)}, 3)
			l[place] = acceptor(6, 6, other)
			checkChosen(t, l)
			l[(place+1)%3] = acceptor(9, 0, impl.Config{})
			checkChosen(t, l)
			if got, ok := impl.ChosenValue(l); ok {
				t.Errorf("ChosenValue(%v) = %v, true", l, got)
			}
		}
	}
	for _, value := range configs() {
		checkChosen(t, []impl.Acceptor{acceptor(4, 3, value), {}, acceptor(3, 3, value)})
	}
}

func TestChosenValueTreatsEmptyAsNil(t *testing.T) {
	a := acceptor(3, 3, impl.Config{Epoch: 2, Replicas: []int{0}, Witnesses: []int{}})
	b := acceptor(3, 3, impl.Config{Epoch: 2, Replicas: []int{0}})
	checkChosen(t, []impl.Acceptor{a, b, {}})
	checkChosen(t, []impl.Acceptor{b, {Value: impl.Config{Replicas: []int{}}}, a})
}

func TestChosenValueOfWrongAcceptors(t *testing.T) {
	vote := acceptor(3, 3, config(2, 0, "01", "4"))
	check := func(l []impl.Acceptor) {
		if value, ok := impl.ChosenValue(l); ok || !isZeroConfig(value) {
			t.Fatalf("ChosenValue(%v) = %v, %v", l, value, ok)
		}
	}
	for _, l := range wrongCouncils() {
		check(l)
	}
	for _, a := range wrongAcceptors() {
		check([]impl.Acceptor{a, vote, vote})
		check([]impl.Acceptor{vote, a, vote})
		check([]impl.Acceptor{vote, vote, a})
	}
	for _, count := range []int{1, 2, 4, 5, 6, 100} {
		check(slices.Repeat([]impl.Acceptor{vote}, count))
	}
}

// expectedProposals performs the first 20 proposals, valid or not, beginning with new
// acceptors.
func expectedProposals(l []impl.Proposal) ([]impl.Acceptor, []bool) {
	acceptors := make([]impl.Acceptor, 3)
	var done []bool
	for i, p := range l {
		if i == 20 {
			break
		}
		ok := false
		if inRange(p.Ballot) && impl.IsValidConfig(p.Value) {
			acceptors, _, ok = expectedProposal(acceptors, p)
		}
		done = append(done, ok)
	}
	return acceptors, done
}

func checkProposals(t *testing.T, l []impl.Proposal) ([]impl.Acceptor, []bool) {
	t.Helper()
	want, wanted := expectedProposals(l)
	got, done := impl.RunProposals(l)
	if !sameAcceptors(got, want) || !slices.Equal(done, wanted) {
		t.Fatalf("RunProposals(%v) = %v, %v, want %v, %v", l, got, done, want, wanted)
	}
	return got, done
}

func TestRunProposalsExamples(t *testing.T) {
	v, w := config(2, 0, "01", "none"), config(2, 1, "1", "04")
	none := impl.Config{}
	for _, c := range []struct {
		name string
		l    []impl.Proposal
		want []impl.Acceptor
		done []bool
	}{
		{"no proposal", nil, make([]impl.Acceptor, 3), nil},
		{
			"one that succeeds", []impl.Proposal{propose(1, []int{0, 1}, []int{0, 1}, v)},
			[]impl.Acceptor{acceptor(1, 1, v), acceptor(1, 1, v), {}}, []bool{true},
		},
		{
			"one that fails, but for its promise", []impl.Proposal{propose(1, []int{0}, []int{0, 1}, v)},
			[]impl.Acceptor{acceptor(1, 0, none), {}, {}}, []bool{false},
		},
		{
			"one that is not valid", []impl.Proposal{propose(1, []int{0, 1}, []int{0, 1}, none)},
			make([]impl.Acceptor, 3), []bool{false},
		},
		{
			"a failure leaves a vote that is adopted", []impl.Proposal{propose(1, []int{0, 1}, []int{1}, v), propose(2, []int{1, 2}, []int{0, 2}, w)},
			[]impl.Acceptor{acceptor(2, 2, v), acceptor(2, 1, v), acceptor(2, 2, v)}, []bool{false, true},
		},
		{
			"a vote of one that is not asked is lost", []impl.Proposal{propose(1, []int{0, 1}, []int{1}, v), propose(2, []int{0, 2}, []int{0, 1, 2}, w)},
			[]impl.Acceptor{acceptor(2, 2, w), acceptor(2, 2, w), acceptor(2, 2, w)}, []bool{false, true},
		},
		{
			"one overtakes another one", []impl.Proposal{propose(7, []int{0, 1, 2}, nil, v), propose(6, []int{0, 1, 2}, []int{0, 1, 2}, w), propose(8, []int{0, 1}, []int{0, 1}, w)},
			[]impl.Acceptor{acceptor(8, 8, w), acceptor(8, 8, w), acceptor(7, 0, none)}, []bool{false, false, true},
		},
		{
			"one after one that is not valid", []impl.Proposal{propose(100, everyMaster(), everyMaster(), v), propose(99, everyMaster(), everyMaster(), w), propose(1, everyMaster(), everyMaster(), v)},
			[]impl.Acceptor{acceptor(99, 99, w), acceptor(99, 99, w), acceptor(99, 99, w)}, []bool{false, true, false},
		},
	} {
		got, done := impl.RunProposals(c.l)
		if !sameAcceptors(got, c.want) || !slices.Equal(done, c.done) {
			t.Errorf("%s: RunProposals(%v) = %v, %v, want %v, %v", c.name, c.l, got, done, c.want, c.done)
		}
	}
}

// Every proposal succeeds, and the last one that is performed shows in the acceptors.
func TestRunProposalsPerformsTheFirst20(t *testing.T) {
	v := config(2, 0, "01", "none")
	for _, count := range []int{0, 1, 2, 18, 19, 20, 21, 22, 40, 99, 10000} {
		var l []impl.Proposal
		for i := range count {
			l = append(l, propose(1+min(i, 98), everyMaster(), everyMaster(), v))
		}
		got, done := checkProposals(t, l)
		performed := min(count, 20)
		if !slices.Equal(done, slices.Repeat([]bool{true}, performed)) {
			t.Errorf("RunProposals of %d proposals returns %v", count, done)
		}
		if got[0].Promised != performed || got[2].Ballot != performed {
			t.Errorf("RunProposals of %d proposals returns the acceptors %v", count, got)
		}
	}
}

// Proposals that fail or are not valid count among the first 20 as well.
func TestRunProposalsCountsFailures(t *testing.T) {
	v := config(2, 0, "01", "none")
	last := propose(50, everyMaster(), everyMaster(), v)
	for _, failure := range []impl.Proposal{{}, propose(1, nil, nil, v), propose(100, everyMaster(), everyMaster(), v), propose(1, []int{0}, everyMaster(), v)} {
		for _, before := range []int{18, 19, 20, 21} {
			_, done := checkProposals(t, append(slices.Repeat([]impl.Proposal{failure}, before), last))
			if want := before < 20; slices.Contains(done, true) != want || len(done) != min(before+1, 20) {
				t.Errorf("after %d failures of %v, RunProposals returns %v", before, failure, done)
			}
		}
	}
}

// Several proposals have one ballot, and at most one of them succeeds.
func TestRunProposalsOfOneBallot(t *testing.T) {
	v, w := config(2, 0, "01", "none"), config(2, 1, "1", "04")
	for _, ballot := range []int{1, 50, 99} {
		for _, a := range masterSets() {
			for _, b := range masterSets() {
				for _, c := range masterSets() {
					got, done := checkProposals(t, []impl.Proposal{propose(ballot, a, everyMaster(), v), propose(ballot, b, everyMaster(), w), propose(ballot, c, everyMaster(), v)})
					successes := 0
					for _, ok := range done {
						if ok {
							successes++
						}
					}
					if _, ok := impl.ChosenValue(got); successes > 1 || ok != (successes == 1) {
						t.Fatalf("of the proposals to %v, %v and %v, %v succeed: %v", a, b, c, done, got)
					}
				}
			}
		}
		_, done := checkProposals(t, slices.Repeat([]impl.Proposal{propose(ballot, []int{0, 2}, everyMaster(), v)}, 25))
		if slices.Index(done, true) != 0 || slices.Contains(done[1:], true) || len(done) != 20 {
			t.Errorf("of equal proposals with ballot %d, %v succeed", ballot, done)
		}
	}
}

// The proposals of one call continue those before, and no call continues another one.
func TestRunProposalsAreThoseOfRunProposal(t *testing.T) {
	source := newProposer(1)
	for run := range 500 {
		var l []impl.Proposal
		for i := range run % 30 {
			l = append(l, source.next(i+3))
		}
		got, done := checkProposals(t, l)
		acceptors := impl.NewAcceptors()
		for i, p := range l[:len(done)] {
			next, _, ok := impl.RunProposal(acceptors, p)
			if ok != done[i] {
				t.Fatalf("RunProposals(%v) returns %v, but RunProposal %v for the one with the index %d", l, done, ok, i)
			}
			acceptors = next
		}
		if !sameAcceptors(got, acceptors) {
			t.Fatalf("RunProposals(%v) returns %v, but RunProposal one after another %v", l, got, acceptors)
		}
	}
}

// A proposer makes random proposals.
type proposer struct {
	random *rand.Rand
	lists  [][]int
	values []impl.Config
	wrong  []impl.Config
}

func newProposer(stream uint64) *proposer {
	return &proposer{random: rand.New(rand.NewPCG(11, stream)), lists: masterLists(), values: fewConfigs(), wrong: fewWrongConfigs()}
}

func (p *proposer) list() []int {
	return p.lists[p.random.IntN(len(p.lists))]
}

// next returns a proposal with one of the first ballots, with any lists and any value;
// sometimes one that is not valid.
func (p *proposer) next(ballots int) impl.Proposal {
	values := p.values
	if p.random.IntN(20) == 0 {
		values = p.wrong
	}
	return propose(p.random.IntN(ballots+1), p.list(), p.list(), values[p.random.IntN(len(values))])
}

// A choice is the state of the masters and the value that has been chosen, if any. A
// value stays chosen even when no majority keeps it with one ballot any more.
type choice struct {
	acceptors []impl.Acceptor
	value     impl.Config
	is        bool
}

// after performs a proposal and checks that no other value is chosen, and that
// ChosenValue agrees with the answers so far.
func (c choice) after(t *testing.T, p impl.Proposal) choice {
	t.Helper()
	acceptors, value, ok := impl.RunProposal(c.acceptors, p)
	next := choice{acceptors: acceptors, value: c.value, is: c.is || ok}
	if ok && !c.is {
		next.value = value
	}
	if ok && !sameConfig(value, next.value) || !ok && !isZeroConfig(value) {
		t.Fatalf("after %v has been chosen, RunProposal(%v, %v) returns %v, %v", c.value, c.acceptors, p, value, ok)
	}
	chosen, is := impl.ChosenValue(acceptors)
	if ok && !is || is && !next.is || is && !sameConfig(chosen, next.value) {
		t.Fatalf("after %v has been chosen, RunProposal(%v, %v) returns %v and %v, and ChosenValue %v, %v", c.value, c.acceptors, p, acceptors, ok, chosen, is)
	}
	return next
}

// key returns a string that two choices have in common only if they are equal.
func (c choice) key() string {
	s := impl.FormatConfig(c.value)
	for _, a := range c.acceptors {
		s += "/" + impl.FormatInt(a.Promised) + "," + impl.FormatInt(a.Ballot) + "," + impl.FormatConfig(a.Value)
	}
	return s
}

// reachableChoices returns all states in which the masters can be after any number of
// these proposals, and checks each proposal in each of them.
func reachableChoices(t *testing.T, proposals []impl.Proposal) map[string]choice {
	t.Helper()
	first := choice{acceptors: impl.NewAcceptors()}
	known, open := map[string]choice{first.key(): first}, []choice{first}
	for len(open) > 0 {
		c := open[len(open)-1]
		open = open[:len(open)-1]
		for _, p := range proposals {
			next := c.after(t, p)
			if _, ok := known[next.key()]; !ok {
				known[next.key()] = next
				open = append(open, next)
			}
		}
	}
	return known
}

func TestNoReachableStateChoosesTwoValues(t *testing.T) {
	var proposals []impl.Proposal
	for ballot, value := range []impl.Config{config(2, 0, "01", "none"), config(2, 1, "1", "04"), config(3, 1, "1", "04")} {
		for _, first := range masterSets() {
			for _, second := range masterSets() {
				proposals = append(proposals, propose(1+ballot, first, second, value))
			}
		}
	}
	counts := map[bool]int{}
	for _, c := range reachableChoices(t, proposals) {
		counts[c.is]++
	}
	if counts[false] < 100 || counts[true] < 100 {
		t.Errorf("%d states are reached before a value is chosen, and %d after it: they are too much alike", counts[false], counts[true])
	}
}

// Several masters propose different values with the same ballots.
func TestNoReachableStateOfEqualBallotsChoosesTwoValues(t *testing.T) {
	var proposals []impl.Proposal
	for ballot := 1; ballot <= 2; ballot++ {
		for _, value := range []impl.Config{config(2, 0, "01", "none"), config(2, 1, "1", "04")} {
			for _, first := range masterSets() {
				for _, second := range masterSets() {
					proposals = append(proposals, propose(ballot, first, second, value))
				}
			}
		}
	}
	if states := reachableChoices(t, proposals); len(states) < 100 {
		t.Errorf("only %d states are reached", len(states))
	}
}

// In long runs the ballots grow slowly, so that most proposals meet others.
func TestAtMostOneValueIsChosenInLongRuns(t *testing.T) {
	counts, adopted, source := map[bool]int{}, 0, newProposer(2)
	for run := range 2000 {
		c := choice{acceptors: impl.NewAcceptors()}
		for step := range 60 {
			p := source.next(2 + step*(run%3)/2)
			next := c.after(t, p)
			if c.is && next.acceptors[1].Ballot > c.acceptors[1].Ballot && !sameConfig(p.Value, c.value) {
				adopted++
			}
			c = next
		}
		counts[c.is]++
	}
	if counts[true] < 1000 || adopted < 1000 {
		t.Errorf("%d runs choose no value, %d one, and %d times it is adopted: the runs are too much alike", counts[false], counts[true], adopted)
	}
}

// The same with RunProposals: no continuation of a run that has chosen a value chooses
// another one.
func TestRunProposalsChooseAtMostOneValue(t *testing.T) {
	chosen, source := 0, newProposer(3)
	for range 500 {
		var l []impl.Proposal
		for i := range 20 {
			l = append(l, source.next(i+3))
		}
		var value impl.Config
		for count := range 21 {
			acceptors, done := impl.RunProposals(l[:count])
			now, ok := impl.ChosenValue(acceptors)
			if ok && isZeroConfig(value) {
				value = now
				chosen++
			}
			if ok && !sameConfig(now, value) || ok && !slices.Contains(done, true) || count > 0 && done[count-1] && !ok {
				t.Fatalf("RunProposals(%v) = %v, %v choose %v, %v after %v", l[:count], acceptors, done, now, ok, value)
			}
		}
	}
	if chosen < 250 {
		t.Errorf("only %d runs choose a value", chosen)
	}
}

// spoilAcceptors overwrites a list and the lists of its values as far as their
// capacities allow.
func spoilAcceptors(l []impl.Acceptor) {
	for _, a := range l {
		spoilList(a.Value.Replicas)
		spoilList(a.Value.Witnesses)
	}
	l = l[:cap(l)]
	for i := range l {
		l[i] = impl.Acceptor{Promised: 55, Ballot: 66, Value: impl.Config{Epoch: 77}}
	}
}

func spoilProposal(p impl.Proposal) {
	spoilList(p.First)
	spoilList(p.Second)
	spoilList(p.Value.Replicas)
	spoilList(p.Value.Witnesses)
}

// A listKeeper gives spare capacity to the lists of arguments and knows their contents.
type listKeeper struct {
	wholes [][]int
	before [][]int
}

func (k *listKeeper) keep(l []int) []int {
	part, whole := withSpareCapacity(l)
	k.wholes, k.before = append(k.wholes, whole), append(k.before, slices.Clone(whole))
	return part
}

func (k *listKeeper) keepConfig(c impl.Config) impl.Config {
	c.Replicas, c.Witnesses = k.keep(c.Replicas), k.keep(c.Witnesses)
	return c
}

func (k *listKeeper) keepProposal(p impl.Proposal) impl.Proposal {
	return propose(p.Ballot, k.keep(p.First), k.keep(p.Second), k.keepConfig(p.Value))
}

func (k *listKeeper) check(t *testing.T) {
	t.Helper()
	for i := range k.wholes {
		if !slices.Equal(k.wholes[i], k.before[i]) {
			t.Fatalf("a list of an argument has changed from %v to %v", k.before[i], k.wholes[i])
		}
	}
}

// checkKeepsCouncil calls all functions of the chapter, spoils their answers, and looks
// for changes of the arguments.
func checkKeepsCouncil(t *testing.T, l []impl.Acceptor, p impl.Proposal) {
	t.Helper()
	var keeper listKeeper
	var acceptors []impl.Acceptor
	for _, a := range append(slices.Clone(l), acceptor(88, 8, config(2, 0, "01", "4"))) {
		acceptors = append(acceptors, acceptor(a.Promised, a.Ballot, keeper.keepConfig(a.Value)))
	}
	p = keeper.keepProposal(p)
	before := slices.Clone(acceptors)
	part := acceptors[:len(l)]
	impl.AreAcceptors(part)
	after, value, _ := impl.RunProposal(part, p)
	spoilAcceptors(after)
	spoilConfig(value)
	value, _ = impl.ChosenValue(part)
	spoilConfig(value)
	proposals := []impl.Proposal{p, propose(99, p.Second, p.First, p.Value), {Ballot: 77}}
	after, done := impl.RunProposals(proposals[:2])
	spoilAcceptors(after)
	clear(done[:cap(done)])
	keeper.check(t)
	if !sameAcceptors(acceptors, before) {
		t.Fatalf("the acceptors %v have become %v", before, acceptors)
	}
	if proposals[0].Ballot != p.Ballot || proposals[1].Ballot != 99 || proposals[2].Ballot != 77 {
		t.Fatalf("the proposals have become %v", proposals)
	}
	for i, wanted := range []impl.Proposal{p, propose(99, p.Second, p.First, p.Value)} {
		got := proposals[i]
		if !slices.Equal(got.First, wanted.First) || !slices.Equal(got.Second, wanted.Second) || !sameConfig(got.Value, wanted.Value) {
			t.Fatalf("the proposal %v has become %v", wanted, got)
		}
	}
}

func spoilConfig(c impl.Config) {
	spoilList(c.Replicas)
	spoilList(c.Witnesses)
}

// fewProposals returns proposals that succeed, fail in each step or are not valid.
func fewProposals() []impl.Proposal {
	v, w := config(4, 3, "13", "024"), config(20, 0, "01234", "none")
	return []impl.Proposal{
		propose(6, []int{2, 0, 1}, []int{1, 0, 2}, v),
		propose(99, []int{0, 2}, []int{1, 2}, w),
		propose(50, []int{2, 2, 3, 1, -1}, []int{1, 1}, v),
		propose(50, []int{1}, []int{0, 1, 2}, v),
		propose(5, []int{0, 1, 2}, []int{2, 1, 0}, w),
		propose(50, nil, nil, v),
		propose(0, []int{0, 1, 2}, []int{0, 1, 2}, v),
		propose(100, []int{0, 1, 2}, []int{0, 1, 2}, v),
		propose(50, []int{0, 1, 2}, []int{0, 1, 2}, impl.Config{Epoch: 3, Primary: 1, Replicas: []int{1, 0}, Witnesses: []int{4}}),
		{},
	}
}

func TestSynodKeepsItsArguments(t *testing.T) {
	for _, l := range append(fewCouncils(), fewWrongCouncils()...) {
		for _, p := range fewProposals() {
			checkKeepsCouncil(t, l, p)
		}
	}
}

// checkApart overwrites the lists of the values one after another and checks that each
// of them changes no other one.
func checkApart(t *testing.T, values ...impl.Config) {
	t.Helper()
	var lists [][]int
	for _, c := range values {
		lists = append(lists, c.Replicas, c.Witnesses)
	}
	for i, l := range lists {
		rest := lists[i+1:]
		var before [][]int
		for _, other := range rest {
			before = append(before, slices.Clone(other))
		}
		spoilList(l)
		if !slices.EqualFunc(rest, before, slices.Equal[[]int]) {
			t.Fatalf("a change of one list of %v changes another one", values)
		}
	}
}

func valuesOf(l []impl.Acceptor) []impl.Config {
	var values []impl.Config
	for _, a := range l {
		values = append(values, a.Value)
	}
	return values
}

// An answer stays as it is when the arguments change, and its lists are apart.
func TestRunProposalReturnsNewMemory(t *testing.T) {
	for _, valid := range append(fewCouncils(), fewWrongCouncils()...) {
		for _, original := range fewProposals() {
			l, p := copyOfAcceptors(valid), copyOfProposal(original)
			after, value, _ := impl.RunProposal(l, p)
			wantedAfter, wantedValue := copyOfAcceptors(after), copyOfConfig(value)
			spoilAcceptors(l)
			spoilProposal(p)
			if !sameAcceptors(after, wantedAfter) || !sameConfig(value, wantedValue) {
				t.Fatalf("a change of the arguments changes RunProposal(%v, %v) from %v, %v to %v, %v", valid, original, wantedAfter, wantedValue, after, value)
			}
			checkApart(t, append([]impl.Config{value}, valuesOf(after)...)...)
		}
	}
}

func TestChosenValueReturnsNewMemory(t *testing.T) {
	for _, valid := range fewCouncils() {
		l := copyOfAcceptors(valid)
		value, ok := impl.ChosenValue(l)
		wanted := copyOfConfig(value)
		spoilConfig(value)
		if !sameAcceptors(l, valid) {
			t.Fatalf("a change of ChosenValue(%v) changes the acceptors to %v", valid, l)
		}
		value, again := impl.ChosenValue(l)
		if !sameConfig(value, wanted) || again != ok {
			t.Fatalf("the second ChosenValue(%v) is %v, %v", valid, value, again)
		}
		spoilAcceptors(l)
		if !sameConfig(value, wanted) {
			t.Fatalf("a change of the acceptors changes ChosenValue(%v) to %v", valid, value)
		}
		checkApart(t, value)
	}
}

func TestRunProposalsReturnNewMemory(t *testing.T) {
	for _, first := range fewProposals() {
		for _, second := range fewProposals() {
			original := []impl.Proposal{first, second}
			l := []impl.Proposal{copyOfProposal(first), copyOfProposal(second)}
			after, done := impl.RunProposals(l)
			wantedAfter, wantedDone := copyOfAcceptors(after), slices.Clone(done)
			spoilProposal(l[0])
			spoilProposal(l[1])
			clear(l)
			if !sameAcceptors(after, wantedAfter) || !slices.Equal(done, wantedDone) {
				t.Fatalf("a change of the proposals changes RunProposals(%v) from %v to %v", original, wantedAfter, after)
			}
			again, _ := impl.RunProposals(original)
			checkApart(t, append(valuesOf(after), valuesOf(again)...)...)
			spoilAcceptors(after)
			if last, _ := impl.RunProposals(original); !sameAcceptors(last, wantedAfter) {
				t.Fatalf("the third RunProposals(%v) is %v", original, last)
			}
		}
	}
}

// Acceptors whose values are the same lists, and a proposal with these lists, have
// answers with lists apart.
func TestSynodSeparatesSharedLists(t *testing.T) {
	whole := []int{0, 1, 2, 3}
	shared := impl.Config{Epoch: 2, Primary: 0, Replicas: whole[:2], Witnesses: whole[2:]}
	l := []impl.Acceptor{acceptor(3, 3, shared), acceptor(3, 3, shared), acceptor(3, 2, shared)}
	for _, p := range []impl.Proposal{propose(4, whole, whole, shared), propose(4, whole[:1], whole, shared), propose(4, whole, whole[:1], shared), propose(0, whole, whole, shared)} {
		after, value, _ := impl.RunProposal(l, p)
		checkApart(t, append([]impl.Config{value}, valuesOf(after)...)...)
		after, _ = impl.RunProposals([]impl.Proposal{p, p})
		checkApart(t, valuesOf(after)...)
	}
	value, _ := impl.ChosenValue(l)
	checkApart(t, value)
	if !slices.Equal(whole, []int{0, 1, 2, 3}) {
		t.Errorf("the arguments have become %v", whole)
	}
}

// The answer is the same however the goroutines of the masters are scheduled.
func TestRunProposalDoesNotDependOnScheduling(t *testing.T) {
	defer runtime.GOMAXPROCS(runtime.GOMAXPROCS(0))
	for _, processors := range []int{1, 2, 8} {
		runtime.GOMAXPROCS(processors)
		for range 100 {
			for _, l := range fewCouncils() {
				for _, p := range fewProposals()[:5] {
					checkProposal(t, l, p, true)
				}
			}
		}
	}
}

// Calls at the same time do not disturb one another, even with the same arguments.
func TestProposalsAtTheSameTime(t *testing.T) {
	councils, proposals := fewCouncils(), fewProposals()[:8]
	var callers sync.WaitGroup
	for range 16 {
		callers.Add(1)
		go func() {
			defer callers.Done()
			for _, l := range councils {
				for _, p := range proposals {
					want, wantedValue, wanted := l, impl.Config{}, false
					if inRange(p.Ballot) {
						want, wantedValue, wanted = expectedProposal(l, p)
					}
					got, value, ok := impl.RunProposal(l, p)
					if !sameAcceptors(got, want) || !sameConfig(value, wantedValue) || ok != wanted {
						t.Errorf("RunProposal(%v, %v) = %v, %v, %v beside other calls", l, p, got, value, ok)
						return
					}
				}
			}
		}()
	}
	callers.Wait()
}

// No goroutine outlives its call, whether the proposal succeeds or fails.
func TestProposalsJoinTheirGoroutines(t *testing.T) {
	before := runtime.NumGoroutine()
	for range 20 {
		for _, l := range append(fewCouncils(), nil, make([]impl.Acceptor, 4)) {
			for _, p := range fewProposals() {
				impl.RunProposal(l, p)
			}
		}
		impl.RunProposals(fewProposals())
	}
	// A goroutine that has been joined may still be about to end.
	for range 1000 {
		if runtime.NumGoroutine() <= before {
			return
		}
		time.Sleep(time.Millisecond)
	}
	t.Errorf("there were %d goroutines, and now there are %d", before, runtime.NumGoroutine())
}
