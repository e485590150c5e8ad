package tests

import (
	"math"
	"math/rand/v2"
	"slices"
	"testing"

	"loop.example/g01926/impl"
)

// The tests of this file check the part of promise 6 that chapter 10 contains: an
// acceptor promises each ballot at most once and accepts nothing less than its promise.
// At the end, masters in the tests use three acceptors in any order, and at most one
// value is chosen.

func acceptor(promised int, ballot int, value impl.Config) impl.Acceptor {
	return impl.Acceptor{Promised: promised, Ballot: ballot, Value: value}
}

// fewAcceptors returns valid acceptors that have accepted nothing, or some value with
// the least ballot, the greatest one, the promised one and one below it.
func fewAcceptors() []impl.Acceptor {
	all := []impl.Acceptor{{}}
	for _, promised := range []int{1, 2, 5, 50, 98, 99} {
		all = append(all, acceptor(promised, 0, impl.Config{}))
	}
	for i, value := range fewConfigs() {
		promised := []int{1, 5, 99}[i%3]
		all = append(all, acceptor(promised, promised, value))
	}
	return append(all,
		acceptor(2, 1, config(2, 0, "01", "none")),
		acceptor(99, 1, config(2, 1, "1", "0")),
		acceptor(99, 98, config(2, 4, "34", "012")),
		acceptor(50, 49, config(19, 2, "012", "34")),
		acceptor(98, 7, config(1, 3, "03", "1")),
	)
}

// valuesBesideZero returns configurations that differ from the zero value in one field
// each, and valid ones.
func valuesBesideZero() []impl.Config {
	all := fewConfigs()
	for _, n := range append(farNumbers(), 1, 2, 20) {
		all = append(all, impl.Config{Epoch: n}, impl.Config{Primary: n})
	}
	for _, l := range append(wrongLists(), []int{0}, []int{4}, []int{0, 1, 2, 3, 4}) {
		all = append(all, impl.Config{Replicas: l}, impl.Config{Witnesses: l})
	}
	return all
}

// fewWrongConfigs returns configurations that are invalid in each of their fields.
func fewWrongConfigs() []impl.Config {
	return []impl.Config{
		{},
		config(0, 1, "012", "4"),
		config(-1, 1, "012", "4"),
		config(21, 1, "012", "4"),
		config(3, 3, "012", "4"),
		config(3, 4, "012", "4"),
		config(3, -1, "012", "4"),
		config(3, 1, "none", "4"),
		config(3, 1, "012", "24"),
		config(3, 1, "012", "01234"),
		{Epoch: 3, Primary: 1, Replicas: []int{1, 0}, Witnesses: []int{4}},
		{Epoch: 3, Primary: 1, Replicas: []int{0, 1, 1}, Witnesses: []int{4}},
		{Epoch: 3, Primary: 5, Replicas: []int{0, 5}},
		{Epoch: 3, Primary: 1, Replicas: []int{0, 1}, Witnesses: []int{5}},
		{Epoch: 3, Primary: 1, Replicas: []int{0, 1}, Witnesses: []int{4, 3}},
		{Epoch: 3, Primary: 1, Replicas: []int{0, 1}, Witnesses: []int{-1}},
	}
}

// wrongAcceptors returns acceptors that are not valid. In most of them one field of a
// valid one has been changed.
func wrongAcceptors() []impl.Acceptor {
	value := config(2, 0, "01", "4")
	wrong := []impl.Acceptor{
		acceptor(0, 1, value), acceptor(1, 2, value), acceptor(98, 99, value), acceptor(99, 100, value), acceptor(50, 99, value),
		acceptor(0, 1, impl.Config{}), acceptor(1, 2, impl.Config{}), acceptor(100, 100, value), acceptor(-1, -1, value), acceptor(-1, -1, impl.Config{}),
		acceptor(-2, -1, impl.Config{}), acceptor(math.MinInt, math.MinInt, impl.Config{}), acceptor(math.MaxInt, math.MaxInt, value),
	}
	for _, n := range farNumbers() {
		wrong = append(wrong,
			acceptor(n, 0, impl.Config{}), acceptor(n, 1, value), acceptor(n, 50, value), acceptor(n, n, value),
			acceptor(0, n, impl.Config{}), acceptor(50, n, impl.Config{}), acceptor(99, n, value),
		)
	}
	for _, beside := range valuesBesideZero() {
		wrong = append(wrong, acceptor(0, 0, beside), acceptor(1, 0, beside), acceptor(99, 0, beside))
	}
	for _, invalid := range fewWrongConfigs() {
		wrong = append(wrong, acceptor(1, 1, invalid), acceptor(50, 1, invalid), acceptor(99, 98, invalid), acceptor(99, 99, invalid))
	}
	return wrong
}

func sameAcceptor(a impl.Acceptor, b impl.Acceptor) bool {
	return a.Promised == b.Promised && a.Ballot == b.Ballot && sameConfig(a.Value, b.Value)
}

func copyOfAcceptor(a impl.Acceptor) impl.Acceptor {
	a.Value = copyOfConfig(a.Value)
	return a
}

// ballotsAround returns ballots at the limits, out of range, and around n.
func ballotsAround(n int) []int {
	return append(farNumbers(), 0, 1, 2, 50, 97, 98, 99, n-1, n, n+1)
}

func inRange(ballot int) bool {
	return ballot >= 1 && ballot <= 99
}

// checkPrepare compares the answer of Prepare for any acceptor with the expected one;
// the caller knows whether the acceptor is valid.
func checkPrepare(t *testing.T, a impl.Acceptor, ballot int, valid bool) {
	t.Helper()
	want, wanted := a, valid && inRange(ballot) && ballot > a.Promised
	if wanted {
		want.Promised = ballot
	}
	got, ok := impl.Prepare(a, ballot)
	if !sameAcceptor(got, want) || ok != wanted {
		t.Fatalf("Prepare(%v, %d) = %v, %v, want %v, %v", a, ballot, got, ok, want, wanted)
	}
	if impl.IsValidAcceptor(got) != valid {
		t.Fatalf("IsValidAcceptor of Prepare(%v, %d) is not %v", a, ballot, valid)
	}
}

// checkAccept does the same for Accept; valid tells whether the acceptor and the value
// are both valid.
func checkAccept(t *testing.T, a impl.Acceptor, ballot int, value impl.Config, valid bool) {
	t.Helper()
	want, wanted := a, valid && inRange(ballot) && ballot >= a.Promised
	if wanted {
		want = impl.Acceptor{Promised: ballot, Ballot: ballot, Value: value}
	}
	got, ok := impl.Accept(a, ballot, value)
	if !sameAcceptor(got, want) || ok != wanted {
		t.Fatalf("Accept(%v, %d, %v) = %v, %v, want %v, %v", a, ballot, value, got, ok, want, wanted)
	}
	if valid && !impl.IsValidAcceptor(got) {
		t.Fatalf("Accept(%v, %d, %v) is not valid", a, ballot, value)
	}
}

func TestBallotConstants(t *testing.T) {
	if impl.MaxBallot != 99 {
		t.Errorf("MaxBallot is %d", impl.MaxBallot)
	}
}

func TestIsValidAcceptorAcceptsTheLimits(t *testing.T) {
	value := config(1, 0, "0", "none")
	for _, a := range append(fewAcceptors(),
		acceptor(99, 99, value),
		acceptor(1, 1, value),
		acceptor(0, 0, impl.Config{Replicas: []int{}, Witnesses: []int{}}),
		acceptor(99, 0, impl.Config{Replicas: []int{}}),
		acceptor(1, 1, impl.Config{Epoch: 20, Replicas: []int{0}, Witnesses: []int{}}),
	) {
		if !impl.IsValidAcceptor(a) {
			t.Errorf("IsValidAcceptor(%v) = false", a)
		}
	}
}

func TestIsValidAcceptorChecksPromised(t *testing.T) {
	for _, promised := range append(farNumbers(), -1, 0, 1, 98, 99, 100) {
		want := promised >= 0 && promised <= 99
		if got := impl.IsValidAcceptor(acceptor(promised, 0, impl.Config{})); got != want {
			t.Errorf("IsValidAcceptor of Promised %d and no value = %v", promised, got)
		}
		want = promised >= 1 && promised <= 99
		if got := impl.IsValidAcceptor(acceptor(promised, 1, config(2, 0, "01", "4"))); got != want {
			t.Errorf("IsValidAcceptor of Promised %d and a value with ballot 1 = %v", promised, got)
		}
	}
}

// For every Promised, all ballots beside the zero value and beside a valid one.
func TestIsValidAcceptorChecksTheBallot(t *testing.T) {
	value := config(2, 0, "01", "4")
	for promised := -2; promised <= 102; promised++ {
		for ballot := -2; ballot <= 103; ballot++ {
			want := ballot == 0 && promised >= 0 && promised <= 99
			if got := impl.IsValidAcceptor(acceptor(promised, ballot, impl.Config{})); got != want {
				t.Fatalf("IsValidAcceptor of Promised %d, Ballot %d and the zero value = %v", promised, ballot, got)
			}
			want = ballot >= 1 && ballot <= promised && promised <= 99
			if got := impl.IsValidAcceptor(acceptor(promised, ballot, value)); got != want {
				t.Fatalf("IsValidAcceptor of Promised %d, Ballot %d and a valid value = %v", promised, ballot, got)
			}
		}
	}
}

func TestIsValidAcceptorWithoutBallotHasNoValue(t *testing.T) {
	for _, value := range append(valuesBesideZero(),
		impl.Config{Epoch: 1}, impl.Config{Epoch: -1}, impl.Config{Primary: 1}, impl.Config{Primary: -1},
		impl.Config{Replicas: []int{0}}, impl.Config{Witnesses: []int{0}}, impl.Config{Replicas: []int{0}, Witnesses: []int{}},
	) {
		for _, promised := range []int{0, 1, 50, 99} {
			if impl.IsValidAcceptor(acceptor(promised, 0, value)) {
				t.Errorf("IsValidAcceptor of Promised %d and %v without a ballot = true", promised, value)
			}
		}
	}
}

func TestIsValidAcceptorChecksTheValue(t *testing.T) {
	for _, value := range append(wrongConfigs(), fewWrongConfigs()...) {
		for _, ballot := range []int{1, 50, 99} {
			if impl.IsValidAcceptor(acceptor(99, ballot, value)) {
				t.Fatalf("IsValidAcceptor of %v with ballot %d = true", value, ballot)
			}
		}
	}
	for s, value := range configs() {
		if !impl.IsValidAcceptor(acceptor(3, 2, value)) || impl.IsValidAcceptor(acceptor(3, 0, value)) {
			t.Fatalf("IsValidAcceptor of %q is not right", s)
		}
	}
}

func TestIsValidAcceptorRejects(t *testing.T) {
	for _, a := range wrongAcceptors() {
		if impl.IsValidAcceptor(a) {
			t.Errorf("IsValidAcceptor(%v) = true", a)
		}
	}
}

func TestPrepareExamples(t *testing.T) {
	value := config(2, 0, "01", "none")
	for _, c := range []struct {
		a      impl.Acceptor
		ballot int
		want   impl.Acceptor
		ok     bool
	}{
		{acceptor(0, 0, impl.Config{}), -1, acceptor(0, 0, impl.Config{}), false},
		{acceptor(0, 0, impl.Config{}), 0, acceptor(0, 0, impl.Config{}), false},
		{acceptor(0, 0, impl.Config{}), 1, acceptor(1, 0, impl.Config{}), true},
		{acceptor(0, 0, impl.Config{}), 99, acceptor(99, 0, impl.Config{}), true},
		{acceptor(0, 0, impl.Config{}), 100, acceptor(0, 0, impl.Config{}), false},
		{acceptor(5, 0, impl.Config{}), 4, acceptor(5, 0, impl.Config{}), false},
		{acceptor(5, 0, impl.Config{}), 5, acceptor(5, 0, impl.Config{}), false},
		{acceptor(5, 0, impl.Config{}), 6, acceptor(6, 0, impl.Config{}), true},
		{acceptor(5, 3, value), 4, acceptor(5, 3, value), false},
		{acceptor(5, 3, value), 5, acceptor(5, 3, value), false},
		{acceptor(5, 3, value), 6, acceptor(6, 3, value), true},
		{acceptor(5, 5, value), 5, acceptor(5, 5, value), false},
		{acceptor(5, 5, value), 99, acceptor(99, 5, value), true},
		{acceptor(98, 98, value), 99, acceptor(99, 98, value), true},
		{acceptor(99, 98, value), 99, acceptor(99, 98, value), false},
		{acceptor(99, 98, value), 100, acceptor(99, 98, value), false},
		{acceptor(4, 5, value), 6, acceptor(4, 5, value), false},
		{acceptor(-1, 0, impl.Config{}), 1, acceptor(-1, 0, impl.Config{}), false},
		{acceptor(1, 1, impl.Config{}), 2, acceptor(1, 1, impl.Config{}), false},
		{acceptor(1, 0, value), 2, acceptor(1, 0, value), false},
	} {
		got, ok := impl.Prepare(c.a, c.ballot)
		if !sameAcceptor(got, c.want) || ok != c.ok {
			t.Errorf("Prepare(%v, %d) = %v, %v, want %v, %v", c.a, c.ballot, got, ok, c.want, c.ok)
		}
	}
}

func TestPrepareWithEveryBallot(t *testing.T) {
	for _, a := range fewAcceptors() {
		for ballot := -3; ballot <= 103; ballot++ {
			checkPrepare(t, a, ballot, true)
		}
		for _, ballot := range ballotsAround(a.Promised) {
			checkPrepare(t, a, ballot, true)
		}
	}
	for promised := 0; promised <= 99; promised++ {
		for ballot := -1; ballot <= 101; ballot++ {
			checkPrepare(t, acceptor(promised, 0, impl.Config{}), ballot, true)
		}
	}
}

func TestPrepareOfWrongAcceptors(t *testing.T) {
	for _, a := range wrongAcceptors() {
		for _, ballot := range ballotsAround(a.Promised) {
			checkPrepare(t, a, ballot, false)
		}
	}
}

func TestPreparePromisesNoBallotTwice(t *testing.T) {
	for _, a := range fewAcceptors() {
		for ballot := a.Promised + 1; ballot <= 99; ballot++ {
			promised, ok := impl.Prepare(a, ballot)
			if !ok {
				t.Fatalf("Prepare(%v, %d) = %v, false", a, ballot, promised)
			}
			if again, ok := impl.Prepare(promised, ballot); ok || !sameAcceptor(again, promised) {
				t.Fatalf("the second Prepare(%v, %d) = %v, %v", promised, ballot, again, ok)
			}
		}
	}
}

func TestAcceptExamples(t *testing.T) {
	value, other := config(2, 0, "01", "none"), config(3, 1, "1", "04")
	for _, c := range []struct {
		a      impl.Acceptor
		ballot int
		value  impl.Config
		want   impl.Acceptor
		ok     bool
	}{
		{acceptor(0, 0, impl.Config{}), -1, value, acceptor(0, 0, impl.Config{}), false},
		{acceptor(0, 0, impl.Config{}), 0, value, acceptor(0, 0, impl.Config{}), false},
		{acceptor(0, 0, impl.Config{}), 1, value, acceptor(1, 1, value), true},
		{acceptor(0, 0, impl.Config{}), 99, value, acceptor(99, 99, value), true},
		{acceptor(0, 0, impl.Config{}), 100, value, acceptor(0, 0, impl.Config{}), false},
		{acceptor(0, 0, impl.Config{}), 1, impl.Config{}, acceptor(0, 0, impl.Config{}), false},
		{acceptor(5, 0, impl.Config{}), 4, value, acceptor(5, 0, impl.Config{}), false},
		{acceptor(5, 0, impl.Config{}), 5, value, acceptor(5, 5, value), true},
		{acceptor(5, 0, impl.Config{}), 6, value, acceptor(6, 6, value), true},
		{acceptor(5, 3, value), 4, other, acceptor(5, 3, value), false},
		{acceptor(5, 3, value), 3, value, acceptor(5, 3, value), false},
		{acceptor(5, 3, value), 5, other, acceptor(5, 5, other), true},
		{acceptor(5, 5, value), 5, other, acceptor(5, 5, other), true},
		{acceptor(5, 5, value), 5, value, acceptor(5, 5, value), true},
		{acceptor(5, 5, value), 99, other, acceptor(99, 99, other), true},
		{acceptor(5, 5, value), 6, config(21, 1, "1", "04"), acceptor(5, 5, value), false},
		{acceptor(99, 99, value), 99, other, acceptor(99, 99, other), true},
		{acceptor(99, 99, value), 100, other, acceptor(99, 99, value), false},
		{acceptor(4, 5, value), 6, other, acceptor(4, 5, value), false},
		{acceptor(-1, 0, impl.Config{}), 1, value, acceptor(-1, 0, impl.Config{}), false},
		{acceptor(1, 1, impl.Config{}), 2, value, acceptor(1, 1, impl.Config{}), false},
		{acceptor(1, 0, value), 2, other, acceptor(1, 0, value), false},
	} {
		got, ok := impl.Accept(c.a, c.ballot, c.value)
		if !sameAcceptor(got, c.want) || ok != c.ok {
			t.Errorf("Accept(%v, %d, %v) = %v, %v, want %v, %v", c.a, c.ballot, c.value, got, ok, c.want, c.ok)
		}
	}
}

func TestAcceptWithEveryBallot(t *testing.T) {
	value := config(4, 3, "13", "024")
	for _, a := range fewAcceptors() {
		for ballot := -3; ballot <= 103; ballot++ {
			checkAccept(t, a, ballot, value, true)
		}
		for _, ballot := range ballotsAround(a.Promised) {
			checkAccept(t, a, ballot, value, true)
			checkAccept(t, a, ballot, a.Value, a.Ballot != 0)
		}
	}
	for promised := 0; promised <= 99; promised++ {
		for ballot := -1; ballot <= 101; ballot++ {
			checkAccept(t, acceptor(promised, 0, impl.Config{}), ballot, value, true)
		}
	}
}

func TestAcceptWithEveryValue(t *testing.T) {
	all := configs()
	for _, a := range []impl.Acceptor{{}, acceptor(7, 0, impl.Config{}), acceptor(7, 7, config(2, 0, "01", "4")), acceptor(7, 1, config(3, 1, "012", "4"))} {
		for _, value := range all {
			for _, ballot := range []int{0, 1, 6, 7, 8, 99, 100} {
				checkAccept(t, a, ballot, value, true)
			}
		}
	}
}

func TestAcceptOfWrongValues(t *testing.T) {
	for _, a := range fewAcceptors() {
		for _, value := range fewWrongConfigs() {
			for _, ballot := range ballotsAround(a.Promised) {
				checkAccept(t, a, ballot, value, false)
			}
		}
	}
	for _, value := range wrongConfigs() {
		checkAccept(t, impl.Acceptor{}, 1, value, false)
		checkAccept(t, acceptor(5, 5, config(3, 1, "012", "4")), 5, value, false)
	}
}

func TestAcceptOfWrongAcceptors(t *testing.T) {
	for _, a := range wrongAcceptors() {
		for _, ballot := range ballotsAround(a.Promised) {
			for _, value := range []impl.Config{config(2, 0, "01", "none"), config(20, 4, "4", "0123"), a.Value, {}} {
				checkAccept(t, a, ballot, value, false)
			}
		}
	}
}

// The same request again changes nothing, and neither do requests with less ballots.
func TestAcceptAgain(t *testing.T) {
	value, other := config(2, 0, "01", "none"), config(2, 1, "1", "04")
	for ballot := 1; ballot <= 99; ballot++ {
		first, ok := impl.Accept(impl.Acceptor{}, ballot, value)
		if !ok {
			t.Fatalf("the first Accept with ballot %d = %v, false", ballot, first)
		}
		if second, ok := impl.Accept(first, ballot, value); !ok || !sameAcceptor(second, first) {
			t.Fatalf("the second Accept with ballot %d = %v, %v", ballot, second, ok)
		}
		if _, ok := impl.Prepare(first, ballot); ok {
			t.Fatalf("the accepted ballot %d is promised", ballot)
		}
		for less := 1; less < ballot; less++ {
			if second, ok := impl.Accept(first, less, other); ok || !sameAcceptor(second, first) {
				t.Fatalf("Accept(%v, %d, %v) = %v, %v", first, less, other, second, ok)
			}
		}
	}
}

func checkEqualAcceptors(t *testing.T, a impl.Acceptor, b impl.Acceptor, want bool) {
	t.Helper()
	if got := impl.EqualAcceptors(a, b); got != want {
		t.Fatalf("EqualAcceptors(%v, %v) = %v", a, b, got)
	}
	if got := impl.EqualAcceptors(b, a); got != want {
		t.Fatalf("EqualAcceptors(%v, %v) = %v", b, a, got)
	}
}

// changedAcceptors returns acceptors that differ from a in one field alone; a field of
// the Value, too.
func changedAcceptors(a impl.Acceptor) []impl.Acceptor {
	var all []impl.Acceptor
	for _, n := range []int{1, -1, 2, 5, 64, 100, 256, 1 << 32, math.MinInt} {
		all = append(all, acceptor(a.Promised+n, a.Ballot, a.Value), acceptor(a.Promised, a.Ballot+n, a.Value))
	}
	for _, value := range changedConfigs(a.Value) {
		all = append(all, acceptor(a.Promised, a.Ballot, value))
	}
	return all
}

func TestEqualAcceptorsOfEqualOnes(t *testing.T) {
	for _, a := range append(fewAcceptors(), wrongAcceptors()...) {
		checkEqualAcceptors(t, a, a, true)
		checkEqualAcceptors(t, a, copyOfAcceptor(a), true)
	}
}

func TestEqualAcceptorsComparesEveryField(t *testing.T) {
	for _, a := range append(fewAcceptors(),
		acceptor(4, 5, config(2, 0, "01", "4")), acceptor(-1, -1, impl.Config{}), acceptor(100, 0, impl.Config{Epoch: 21, Primary: 9, Replicas: []int{3, 3}, Witnesses: []int{7, -7}}),
		acceptor(1, 1, impl.Config{}), acceptor(0, 0, impl.Config{Replicas: []int{2, 1, 0}}), acceptor(0, 0, impl.Config{Witnesses: []int{5, 5}}),
	) {
		for _, b := range changedAcceptors(a) {
			checkEqualAcceptors(t, a, b, false)
		}
	}
}

func TestEqualAcceptorsOfAllPairs(t *testing.T) {
	var all []impl.Acceptor
	for _, promised := range []int{-1, 0, 3} {
		for _, ballot := range []int{0, 1, 3} {
			for _, value := range []impl.Config{{}, {Epoch: 1}, {Primary: 1}, {Replicas: []int{0}}, {Witnesses: []int{0}}, {Replicas: []int{0, 0}}, config(2, 0, "01", "4"), config(2, 0, "01", "none")} {
				all = append(all, acceptor(promised, ballot, value))
			}
		}
	}
	for i, a := range all {
		for j, b := range all {
			checkEqualAcceptors(t, a, b, i == j)
		}
	}
}

func TestEqualAcceptorsTreatsNilAsEmpty(t *testing.T) {
	empty := impl.Config{Replicas: []int{}, Witnesses: []int{}}
	checkEqualAcceptors(t, acceptor(3, 0, impl.Config{}), acceptor(3, 0, empty), true)
	checkEqualAcceptors(t, acceptor(3, 0, impl.Config{Replicas: []int{}}), acceptor(3, 0, impl.Config{Witnesses: []int{}}), true)
	checkEqualAcceptors(t, acceptor(3, 0, impl.Config{}), acceptor(3, 0, impl.Config{Witnesses: []int{0}}), false)
	checkEqualAcceptors(t, acceptor(3, 0, empty), acceptor(3, 0, impl.Config{Replicas: []int{0}}), false)
}

// An acceptor with empty lists that are not nil has accepted nothing as well.
func TestRequestsTreatEmptyAsNil(t *testing.T) {
	a := acceptor(3, 0, impl.Config{Replicas: []int{}, Witnesses: []int{}})
	checkPrepare(t, a, 3, true)
	checkPrepare(t, a, 4, true)
	checkAccept(t, a, 2, config(2, 0, "01", "4"), true)
	checkAccept(t, a, 3, config(2, 0, "01", "4"), true)
	checkAccept(t, a, 3, impl.Config{Epoch: 2, Replicas: []int{0}, Witnesses: []int{}}, true)
}

// checkKeepsAcceptors calls all functions of the chapter, spoils the lists that they
// return, and looks for changes of the arguments.
func checkKeepsAcceptors(t *testing.T, a impl.Acceptor, value impl.Config) {
	t.Helper()
	lists := []*[]int{&a.Value.Replicas, &a.Value.Witnesses, &value.Replicas, &value.Witnesses}
	var wholes, before [][]int
	for _, l := range lists {
		part, whole := withSpareCapacity(*l)
		*l, wholes, before = part, append(wholes, whole), append(before, slices.Clone(whole))
	}
	spoil := func(answer impl.Acceptor, ok bool) {
		spoilList(answer.Value.Replicas)
		spoilList(answer.Value.Witnesses)
	}
	impl.IsValidAcceptor(a)
	impl.EqualAcceptors(a, a)
	impl.EqualAcceptors(a, copyOfAcceptor(a))
	for _, ballot := range []int{-1, 0, 1, a.Promised, a.Promised + 1, 99, 100} {
		spoil(impl.Prepare(a, ballot))
		spoil(impl.Accept(a, ballot, value))
		spoil(impl.Accept(a, ballot, a.Value))
	}
	for i := range wholes {
		if !slices.Equal(wholes[i], before[i]) {
			t.Fatalf("an argument has changed: %v and %v: %v has become %v", a, value, before[i], wholes[i])
		}
	}
}

func TestAcceptorFunctionsKeepTheirArguments(t *testing.T) {
	for _, a := range append(fewAcceptors(), wrongAcceptors()...) {
		for _, value := range append(fewWrongConfigs(), config(2, 0, "01", "none"), config(20, 4, "4", "0123"), config(20, 4, "01234", "none")) {
			checkKeepsAcceptors(t, a, value)
		}
	}
}

// checkOwnMemory checks that an answer stays as it is when the arguments change, and
// that its lists are apart from one another.
func checkOwnMemory(t *testing.T, name string, answer impl.Acceptor, arguments ...impl.Config) {
	t.Helper()
	want := copyOfAcceptor(answer)
	for _, c := range arguments {
		spoilList(c.Replicas)
		spoilList(c.Witnesses)
	}
	if !sameAcceptor(answer, want) {
		t.Fatalf("the answer %v of %s has become %v", want, name, answer)
	}
	spoilList(answer.Value.Replicas)
	if !slices.Equal(answer.Value.Witnesses, want.Value.Witnesses) {
		t.Fatalf("the lists of the answer %v of %s share memory", want, name)
	}
}

func TestAcceptorAnswersAreNewMemory(t *testing.T) {
	for _, valid := range append(fewAcceptors(), wrongAcceptors()...) {
		for _, ballot := range []int{-1, 0, 1, valid.Promised, valid.Promised + 1, 99, 100} {
			for _, c := range append(fewWrongConfigs(), config(3, 1, "012", "4"), config(20, 4, "4", "0123")) {
				a, value := copyOfAcceptor(valid), copyOfConfig(c)
				answer, _ := impl.Prepare(a, ballot)
				checkOwnMemory(t, "Prepare", answer, a.Value)
				a = copyOfAcceptor(valid)
				answer, _ = impl.Accept(a, ballot, value)
				checkOwnMemory(t, "Accept", answer, a.Value, value)
			}
		}
	}
}

// The lists of an argument that share memory are apart in the answer.
func TestAcceptorAnswersSeparateTheLists(t *testing.T) {
	whole := []int{0, 1, 2, 3}
	shared := impl.Config{Epoch: 2, Primary: 0, Replicas: whole[:2], Witnesses: whole[2:]}
	same := impl.Config{Epoch: 2, Primary: 0, Replicas: whole, Witnesses: whole}
	for _, a := range []impl.Acceptor{{}, acceptor(3, 2, shared), acceptor(3, 2, same), acceptor(0, 0, same)} {
		for _, value := range []impl.Config{shared, same} {
			for _, ballot := range []int{0, 3, 4} {
				answer, _ := impl.Prepare(a, ballot)
				checkOwnMemory(t, "Prepare", answer)
				answer, _ = impl.Accept(a, ballot, value)
				checkOwnMemory(t, "Accept", answer)
			}
		}
	}
	if !slices.Equal(whole, []int{0, 1, 2, 3}) {
		t.Errorf("the argument has become %v", whole)
	}
}

// The answers depend on the arguments alone: no promise is kept from call to call.
func TestAcceptorsKeepNoState(t *testing.T) {
	value, other := config(2, 0, "01", "none"), config(2, 1, "1", "04")
	for range 3 {
		for _, ballot := range []int{99, 5, 6, 5, 1} {
			checkPrepare(t, impl.Acceptor{}, ballot, true)
			checkAccept(t, impl.Acceptor{}, ballot, value, true)
			checkAccept(t, impl.Acceptor{}, ballot, other, true)
			checkAccept(t, acceptor(5, 5, value), ballot, other, true)
		}
	}
}

// A request of a master: Prepare if the value is the zero value, otherwise Accept.
type request struct {
	ballot int
	value  impl.Config
}

func allRequests(values ...impl.Config) []request {
	var all []request
	for ballot := 0; ballot <= 3; ballot++ {
		all = append(all, request{ballot, impl.Config{}})
		for _, value := range values {
			all = append(all, request{ballot, value})
		}
	}
	return all
}

func send(a impl.Acceptor, r request) (impl.Acceptor, bool) {
	if r.value.Epoch == 0 {
		return impl.Prepare(a, r.ballot)
	}
	return impl.Accept(a, r.ballot, r.value)
}

// checkHistories sends all sequences of requests of the given length to an acceptor.
// The greatest ballot so far, promised or accepted, decides which requests succeed.
func checkHistories(t *testing.T, all []request, a impl.Acceptor, greatest int, length int) {
	t.Helper()
	if length == 0 {
		return
	}
	for _, r := range all {
		isPromise := r.value.Epoch == 0
		want := r.ballot > greatest || r.ballot == greatest && r.ballot != 0 && !isPromise
		next, ok := send(a, r)
		if ok != want {
			t.Fatalf("after the ballot %d the request %v to %v yields %v", greatest, r, a, ok)
		}
		if !impl.IsValidAcceptor(next) || !ok && !sameAcceptor(next, a) || ok && next.Promised != r.ballot {
			t.Fatalf("the request %v turns %v into %v", r, a, next)
		}
		checkHistories(t, all, next, next.Promised, length-1)
	}
}

func TestHistoriesOfOneAcceptor(t *testing.T) {
	checkHistories(t, allRequests(config(2, 0, "01", "none"), config(2, 1, "1", "04")), impl.Acceptor{}, 0, 4)
}

// A master sends Prepare to the acceptors in an order of its own, and after a majority
// of promises Accept to them. The value is the one that was accepted with the greatest
// ballot before the promises, or its own.
type master struct {
	ballot   int
	value    impl.Config
	order    []int
	promises []impl.Acceptor
	accepts  []int
}

func newMaster(random *rand.Rand, ballots int) *master {
	primary := random.IntN(5)
	witnesses := [][]int{nil, {(primary + 1) % 5}}[random.IntN(2)]
	value := impl.Config{Epoch: 2, Primary: primary, Replicas: []int{primary}, Witnesses: witnesses}
	return &master{ballot: 1 + random.IntN(ballots), value: value, order: random.Perm(3), accepts: random.Perm(3)}
}

func (m *master) decide() impl.Config {
	greatest := 0
	value := m.value
	for _, a := range m.promises {
		if a.Ballot > greatest {
			greatest, value = a.Ballot, a.Value
		}
	}
	return value
}

// step sends one request, unless the master has sent all or cannot go on. It calls
// accepted if an acceptor accepts.
func (m *master) step(acceptors []impl.Acceptor, accepted func(index int, ballot int, value impl.Config)) {
	if len(m.promises) < 2 {
		if len(m.order) == 0 {
			return
		}
		index := m.order[0]
		m.order = m.order[1:]
		if next, ok := impl.Prepare(acceptors[index], m.ballot); ok {
			acceptors[index] = next
			m.promises = append(m.promises, next)
		}
		return
	}
	if len(m.accepts) == 0 {
		return
	}
	index, value := m.accepts[0], m.decide()
	m.accepts = m.accepts[1:]
	if next, ok := impl.Accept(acceptors[index], m.ballot, value); ok {
		acceptors[index] = next
		accepted(index, m.ballot, value)
	}
}

// chosenValues lets the masters send their requests in a random order and returns the
// values that a majority has accepted with one ballot at any time, by their formats.
func chosenValues(random *rand.Rand, masters []*master) map[string]bool {
	acceptors := make([]impl.Acceptor, 3)
	votes, chosen := map[int]map[string][]int{}, map[string]bool{}
	for range 6 * len(masters) {
		m := masters[random.IntN(len(masters))]
		m.step(acceptors, func(index int, ballot int, value impl.Config) {
			if votes[ballot] == nil {
				votes[ballot] = map[string][]int{}
			}
			s := impl.FormatConfig(value)
			if !slices.Contains(votes[ballot][s], index) {
				votes[ballot][s] = append(votes[ballot][s], index)
			}
			if len(votes[ballot][s]) >= 2 {
				chosen[s] = true
			}
		})
	}
	return chosen
}

// Several masters use the same ballots, are overtaken in the middle and stop early.
func TestAtMostOneValueIsChosen(t *testing.T) {
	counts := map[int]int{}
	for seed := range uint64(20000) {
		random := rand.New(rand.NewPCG(10, seed))
		var masters []*master
		for range 2 + random.IntN(5) {
			masters = append(masters, newMaster(random, 1+random.IntN(8)))
		}
		chosen := chosenValues(random, masters)
		if len(chosen) > 1 {
			t.Fatalf("with seed %d the values %v are chosen", seed, chosen)
		}
		counts[len(chosen)]++
	}
	if counts[0] < 500 || counts[1] < 500 {
		t.Errorf("%d runs choose no value, and %d one: the runs are too much alike", counts[0], counts[1])
	}
}
