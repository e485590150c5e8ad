package tests

import (
	"math"
	"regexp"
	"slices"
	"strconv"
	"strings"
	"testing"

	"loop.example/g01926/impl"
)

// The tests of this file check promise 3, a machine applies every operation once
// and repeats the result of the last one of each client, and promise 2 for
// machines: they can be parsed from their string format, and no other strings are
// accepted.

// machineFormat matches the formats of valid machines and nothing else.
var machineFormat = regexp.MustCompile(`\A[0-9]{3}( 0\.[1-9][0-9]?[+-][0-9])?( 1\.[1-9][0-9]?[+-][0-9])?( 2\.[1-9][0-9]?[+-][0-9])?\z`)

func session(client int, seq int, done bool, value int) impl.Session {
	return impl.Session{Client: client, Seq: seq, Result: impl.Result{Done: done, Value: value}}
}

// sameMachine is independent of the program.
func sameMachine(a impl.Machine, b impl.Machine) bool {
	return slices.Equal(a.Objects, b.Objects) && slices.Equal(a.Sessions, b.Sessions)
}

func isZeroMachine(m impl.Machine) bool {
	return len(m.Objects) == 0 && len(m.Sessions) == 0
}

// sampleMachines returns machines by their formats: all objects without sessions,
// all sessions alone, and combinations.
func sampleMachines() map[string]impl.Machine {
	all := map[string]impl.Machine{}
	add := func(a int, b int, c int, sessions ...impl.Session) {
		text := strconv.Itoa(a) + strconv.Itoa(b) + strconv.Itoa(c)
		for _, s := range sessions {
			sign := map[bool]string{true: "+", false: "-"}[s.Result.Done]
			text += " " + strconv.Itoa(s.Client) + "." + strconv.Itoa(s.Seq) + sign + strconv.Itoa(s.Result.Value)
		}
		all[text] = impl.Machine{Objects: []int{a, b, c}, Sessions: slices.Clone(sessions)}
	}
	for n := range 1000 {
		add(n/100, n/10%10, n%10)
	}
	for client := range 3 {
		for seq := 1; seq <= 99; seq++ {
			for value := range 10 {
				add(1, 2, 3, session(client, seq, true, value))
				add(1, 2, 3, session(client, seq, false, value))
			}
		}
	}
	choices := []impl.Session{{}, session(0, 1, false, 0), session(0, 99, true, 9), session(0, 10, true, 5), session(0, 9, false, 1)}
	for _, l := range listsOver([]int{0, 1, 2, 3, 4}, 3) {
		var sessions []impl.Session
		for client, choice := range l {
			s := choices[choice]
			s.Client = client
			if s.Seq != 0 {
				sessions = append(sessions, s)
			}
		}
		add(0, 0, 0, sessions...)
		add(9, 9, 9, sessions...)
		add(5, 0, 7, sessions...)
	}
	return all
}

// fewMachines returns machines with no, one, two and three sessions, and with the
// least and the greatest values of each field.
func fewMachines() []impl.Machine {
	return []impl.Machine{
		{Objects: []int{0, 0, 0}},
		{Objects: []int{1, 5, 9}, Sessions: []impl.Session{}},
		{Objects: []int{5, 0, 0}, Sessions: []impl.Session{session(1, 2, true, 0)}},
		{Objects: []int{5, 0, 0}, Sessions: []impl.Session{session(0, 1, false, 5), session(1, 2, true, 0)}},
		{Objects: []int{0, 0, 0}, Sessions: []impl.Session{session(0, 1, false, 0), session(1, 1, false, 0), session(2, 1, false, 0)}},
		{Objects: []int{9, 9, 9}, Sessions: []impl.Session{session(0, 99, true, 9), session(1, 99, true, 9), session(2, 99, true, 9)}},
		{Objects: []int{4, 3, 2}, Sessions: []impl.Session{session(0, 42, true, 1), session(2, 43, false, 8)}},
	}
}

// wrongMachines returns machines that are not valid.
func wrongMachines() []impl.Machine {
	wrong := []impl.Machine{{}, {Objects: []int{}}, {Sessions: []impl.Session{session(0, 1, true, 0)}}}
	for _, m := range fewMachines() {
		wrong = append(wrong, wrongObjects(m)...)
		wrong = append(wrong, wrongSessions(m)...)
	}
	for _, l := range [][]impl.Session{
		{session(1, 2, true, 0), session(0, 1, false, 5)},
		{session(2, 1, true, 0), session(1, 1, true, 0), session(0, 1, true, 0)},
		{session(0, 1, true, 0), session(2, 1, true, 0), session(1, 1, true, 0)},
		{session(0, 1, true, 0), session(0, 1, true, 0)},
		{session(0, 1, true, 0), session(0, 2, false, 1)},
		{session(0, 2, true, 0), session(0, 1, false, 1)},
		{session(2, 1, true, 0), session(2, 1, true, 0)},
		{session(0, 1, true, 0), session(1, 1, true, 0), session(1, 2, true, 0)},
		{session(0, 1, true, 0), session(1, 1, true, 0), session(0, 1, true, 0)},
		{session(-1, 1, true, 0), session(0, 1, true, 0)},
		{session(2, 1, true, 0), session(3, 1, true, 0)},
		{session(math.MinInt, 1, true, 0), session(math.MaxInt, 1, true, 0)},
		make([]impl.Session, 1000),
	} {
		wrong = append(wrong, impl.Machine{Objects: []int{1, 2, 3}, Sessions: l})
	}
	return wrong
}

// wrongObjects returns copies of a valid machine with wrong objects.
func wrongObjects(m impl.Machine) []impl.Machine {
	var wrong []impl.Machine
	add := func(objects []int) {
		wrong = append(wrong, impl.Machine{Objects: objects, Sessions: slices.Clone(m.Sessions)})
	}
	add(nil)
	add([]int{})
	add([]int{0})
	add(slices.Clone(m.Objects[:2]))
	add(append(slices.Clone(m.Objects), 0))
	add(append(slices.Clone(m.Objects), 1, 2, 3))
	add(make([]int, 1000))
	for i := range 3 {
		for _, n := range append(farNumbers(), 10, 11, 99) {
			objects := slices.Clone(m.Objects)
			objects[i] = n
			add(objects)
		}
	}
	return wrong
}

// wrongSessions returns copies of a valid machine in which one session is wrong.
func wrongSessions(m impl.Machine) []impl.Machine {
	var wrong []impl.Machine
	for i := range m.Sessions {
		change := func(field func(*impl.Session) *int, numbers ...int) {
			for _, n := range numbers {
				sessions := slices.Clone(m.Sessions)
				*field(&sessions[i]) = n
				wrong = append(wrong, impl.Machine{Objects: slices.Clone(m.Objects), Sessions: sessions})
			}
		}
		change(func(s *impl.Session) *int { return &s.Client }, append(farNumbers(), 3, 4, 9, 10)...)
		change(func(s *impl.Session) *int { return &s.Seq }, append(farNumbers(), 0)...)
		change(func(s *impl.Session) *int { return &s.Result.Value }, append(farNumbers(), 10, 11)...)
		repeated := slices.Insert(slices.Clone(m.Sessions), i, m.Sessions[i])
		wrong = append(wrong, impl.Machine{Objects: slices.Clone(m.Objects), Sessions: repeated})
	}
	return wrong
}

func copyOfMachine(m impl.Machine) impl.Machine {
	return impl.Machine{Objects: slices.Clone(m.Objects), Sessions: slices.Clone(m.Sessions)}
}

func TestNewMachine(t *testing.T) {
	m := impl.NewMachine()
	if !slices.Equal(m.Objects, []int{0, 0, 0}) || len(m.Sessions) != 0 {
		t.Errorf("NewMachine() = %+v", m)
	}
	m.Objects[1] = 7
	if again := impl.NewMachine(); !slices.Equal(again.Objects, []int{0, 0, 0}) || len(again.Sessions) != 0 {
		t.Errorf("the second NewMachine() = %+v", again)
	}
}

func TestIsValidMachineAccepts(t *testing.T) {
	for s, m := range sampleMachines() {
		if !impl.IsValidMachine(m) {
			t.Fatalf("IsValidMachine(%+v) = false, the machine is %s", m, s)
		}
	}
	for _, m := range fewMachines() {
		if !impl.IsValidMachine(m) {
			t.Errorf("IsValidMachine(%+v) = false", m)
		}
	}
}

func TestIsValidMachineRejects(t *testing.T) {
	for _, m := range wrongMachines() {
		if impl.IsValidMachine(m) {
			t.Errorf("IsValidMachine(%+v) = true", m)
		}
	}
}

func TestIsValidMachineWithAllListsOfClients(t *testing.T) {
	valid := [][]int{{}, {0}, {1}, {2}, {0, 1}, {0, 2}, {1, 2}, {0, 1, 2}}
	for _, clients := range listsOver([]int{-1, 0, 1, 2, 3}, 4) {
		m := impl.Machine{Objects: []int{0, 1, 2}}
		for i, client := range clients {
			m.Sessions = append(m.Sessions, session(client, 10-i, true, i))
		}
		want := slices.ContainsFunc(valid, func(l []int) bool { return slices.Equal(l, clients) })
		if got := impl.IsValidMachine(m); got != want {
			t.Errorf("IsValidMachine with sessions of the clients %v = %v", clients, got)
		}
		if got := impl.FormatMachine(m); (got != "") != want {
			t.Errorf("FormatMachine with sessions of the clients %v = %q", clients, got)
		}
		if _, ok := impl.ReadObject(m, 0); ok != want {
			t.Errorf("ReadObject with sessions of the clients %v returns %v", clients, ok)
		}
		if _, _, ok := impl.ApplyOp(m, impl.Op{Seq: 99, Kind: impl.OpWrite}); ok != want {
			t.Errorf("ApplyOp with sessions of the clients %v returns %v", clients, ok)
		}
	}
}

// checkApplyOp compares the results of ApplyOp with those that are wanted.
func checkApplyOp(t *testing.T, m impl.Machine, o impl.Op, want impl.Machine, wantResult impl.Result, wantOk bool) {
	t.Helper()
	before := copyOfMachine(m)
	got, r, ok := impl.ApplyOp(m, o)
	if !sameMachine(got, want) || r != wantResult || ok != wantOk {
		t.Fatalf("ApplyOp(%+v, %+v) = %+v, %+v, %v, want %+v, %+v, %v", before, o, got, r, ok, want, wantResult, wantOk)
	}
	if !sameMachine(m, before) {
		t.Fatalf("ApplyOp(%+v, %+v) changes the machine to %+v", before, o, m)
	}
}

func TestApplyOpExamples(t *testing.T) {
	done := func(value int) impl.Result { return impl.Result{Done: true, Value: value} }
	kept := func(value int) impl.Result { return impl.Result{Value: value} }
	for _, c := range []struct {
		machine, op, want string
		result            impl.Result
		ok                bool
	}{
		// Writes and swaps of the first client, a second and a third one.
		{"000", "1.2 write 0 5", "500 1.2+0", done(0), true},
		{"500 1.2+0", "0.1 swap 0 4 7", "500 0.1-5 1.2+0", kept(5), true},
		{"500 1.2+0", "0.1 swap 0 5 7", "700 0.1+5 1.2+0", done(5), true},
		{"500 0.1-5 1.2+0", "2.99 write 2 9", "509 0.1-5 1.2+0 2.99+0", done(0), true},
		{"500 1.2+0", "2.1 write 1 1", "510 1.2+0 2.1+0", done(0), true},
		{"123 0.1+0 2.1+0", "1.1 write 1 0", "103 0.1+0 1.1+2 2.1+0", done(2), true},
		{"123 2.7+0", "1.1 swap 2 3 3", "123 1.1+3 2.7+0", done(3), true},
		{"123 2.7+0", "1.1 swap 2 0 3", "123 1.1-3 2.7+0", kept(3), true},
		{"123", "2.1 swap 1 1 3", "123 2.1-2", kept(2), true},
		{"000", "0.1 swap 0 0 0", "000 0.1+0", done(0), true},
		{"999", "0.1 write 1 9", "999 0.1+9", done(9), true},
		{"888", "0.99 write 2 0", "880 0.99+8", done(8), true},
		// A greater Seq, also with a gap.
		{"500 1.2+0", "1.3 write 0 6", "600 1.3+5", done(5), true},
		{"500 1.2+0", "1.99 swap 0 6 7", "500 1.99-5", kept(5), true},
		{"500 0.1-5 1.2+0 2.3+1", "1.10 write 1 4", "540 0.1-5 1.10+0 2.3+1", done(0), true},
		// The Seq of the session, also with another operation.
		{"500 1.2+0", "1.2 write 0 5", "500 1.2+0", done(0), true},
		{"500 1.2+0", "1.2 write 0 6", "500 1.2+0", done(0), true},
		{"500 1.2+0", "1.2 swap 0 5 6", "500 1.2+0", done(0), true},
		{"500 0.1-5 1.2+0", "0.1 write 2 7", "500 0.1-5 1.2+0", kept(5), true},
		{"500 2.99-8", "2.99 write 0 1", "500 2.99-8", kept(8), true},
		// A smaller Seq.
		{"500 1.2+0", "1.1 write 0 7", "500 1.2+0", kept(0), false},
		{"500 1.99+0", "1.98 write 0 7", "500 1.99+0", kept(0), false},
		{"500 0.1-5 1.10+3", "1.9 swap 0 5 7", "500 0.1-5 1.10+3", kept(0), false},
		{"500 0.2-5 1.1+0", "0.1 write 0 7", "500 0.2-5 1.1+0", kept(0), false},
		// Another client has a greater Seq or the same one.
		{"500 1.99+0", "0.1 write 0 7", "700 0.1+5 1.99+0", done(5), true},
		{"500 1.2+0", "2.2 write 0 7", "700 1.2+0 2.2+5", done(5), true},
	} {
		m, isMachine := impl.ParseMachine(c.machine)
		want, isWanted := impl.ParseMachine(c.want)
		o, isOp := impl.ParseOp(c.op)
		if !isMachine || !isWanted || !isOp {
			t.Fatalf("%+v cannot be parsed", c)
		}
		checkApplyOp(t, m, o, want, c.result, c.ok)
	}
}

// expectedApplyOp says what ApplyOp returns for a valid machine and operation.
func expectedApplyOp(m impl.Machine, o impl.Op) (impl.Machine, impl.Result, bool) {
	want := copyOfMachine(m)
	i := slices.IndexFunc(want.Sessions, func(s impl.Session) bool { return s.Client >= o.Client })
	if i < 0 {
		i = len(want.Sessions)
	} else if s := want.Sessions[i]; s.Client == o.Client {
		if o.Seq < s.Seq {
			return want, impl.Result{}, false
		}
		if o.Seq == s.Seq {
			return want, s.Result, true
		}
		want.Sessions = slices.Delete(want.Sessions, i, i+1)
	}
	r := impl.Result{Done: true, Value: want.Objects[o.Object]}
	if o.Kind == impl.OpSwap && o.Old != r.Value {
		r.Done = false
	} else {
		want.Objects[o.Object] = o.Value
	}
	want.Sessions = slices.Insert(want.Sessions, i, session(o.Client, o.Seq, r.Done, r.Value))
	return want, r, true
}

func TestApplyOpOfAllOperations(t *testing.T) {
	for _, o := range operations() {
		for _, m := range fewMachines() {
			want, r, ok := expectedApplyOp(m, o)
			checkApplyOp(t, m, o, want, r, ok)
		}
	}
}

// The previous value, Old and Value have all combinations, before and after an
// operation of the same client and of another one.
func TestApplyOpWithAllValues(t *testing.T) {
	sessions := [][]impl.Session{nil, {session(1, 4, true, 8)}, {session(0, 7, false, 6), session(2, 1, true, 2)}}
	for n := range 1000 {
		previous, old, value := n/100, n/10%10, n%10
		for object := range 3 {
			for _, l := range sessions {
				m := impl.Machine{Objects: []int{3, 3, 3}, Sessions: l}
				m.Objects[object] = previous
				for _, o := range []impl.Op{
					{Client: 1, Seq: 5, Kind: impl.OpSwap, Object: object, Old: old, Value: value},
					{Client: 1, Seq: 5, Kind: impl.OpWrite, Object: object, Value: value},
				} {
					want, r, ok := expectedApplyOp(m, o)
					checkApplyOp(t, m, o, want, r, ok)
				}
			}
		}
	}
}

func TestApplyOpComparesSeq(t *testing.T) {
	for last := 1; last <= 99; last++ {
		m := impl.Machine{Objects: []int{1, 2, 3}, Sessions: []impl.Session{session(0, 50, true, 7), session(1, last, false, 8), session(2, 51, true, 6)}}
		for seq := 1; seq <= 99; seq++ {
			o := impl.Op{Client: 1, Seq: seq, Kind: impl.OpWrite, Object: 1, Value: 9}
			switch {
			case seq < last:
				checkApplyOp(t, m, o, m, impl.Result{}, false)
			case seq == last:
				checkApplyOp(t, m, o, m, impl.Result{Value: 8}, true)
			default:
				r := impl.Result{Done: true, Value: 2}
				want := impl.Machine{Objects: []int{1, 9, 3}, Sessions: []impl.Session{session(0, 50, true, 7), {Client: 1, Seq: seq, Result: r}, session(2, 51, true, 6)}}
				checkApplyOp(t, m, o, want, r, true)
			}
		}
	}
}

func TestApplyOpRejectsInvalidOperations(t *testing.T) {
	for _, o := range wrongOps() {
		for _, m := range fewMachines() {
			checkApplyOp(t, m, o, m, impl.Result{}, false)
		}
	}
}

// A repeated operation is rejected as well if it is not valid.
func TestApplyOpRejectsInvalidRepetitions(t *testing.T) {
	m := impl.Machine{Objects: []int{1, 2, 3}, Sessions: []impl.Session{session(1, 2, true, 7)}}
	for _, o := range []impl.Op{
		{Client: 1, Seq: 2},
		{Client: 1, Seq: 2, Kind: impl.OpWrite, Old: 1},
		{Client: 1, Seq: 2, Kind: impl.OpWrite, Value: 10},
		{Client: 1, Seq: 2, Kind: impl.OpWrite, Object: 3},
		{Client: 1, Seq: 2, Kind: impl.OpSwap, Old: -1},
		{Client: 1, Seq: 2, Kind: 3},
	} {
		checkApplyOp(t, m, o, m, impl.Result{}, false)
	}
}

func TestApplyOpRejectsInvalidMachines(t *testing.T) {
	ops := append(validOps(), impl.Op{Client: 1, Seq: 2, Kind: impl.OpWrite, Value: 5}, impl.Op{})
	for _, m := range wrongMachines() {
		for _, o := range ops {
			checkApplyOp(t, m, o, m, impl.Result{}, false)
		}
	}
}

// machineAfter parses operations and applies them to a new machine.
func machineAfter(t *testing.T, ops ...string) impl.Machine {
	t.Helper()
	m := impl.NewMachine()
	for _, s := range ops {
		o, isOp := impl.ParseOp(s)
		next, _, ok := impl.ApplyOp(m, o)
		if !isOp || !ok {
			t.Fatalf("%s is not applied to %+v", s, m)
		}
		m = next
	}
	return m
}

// Applied twice, one of the swaps would set the object back, or another write
// would be lost.
func TestOperationsAreAppliedOnce(t *testing.T) {
	ops := []string{"0.1 write 0 1", "1.1 swap 0 1 2", "0.2 swap 0 2 1", "2.5 write 0 4", "1.7 swap 1 0 3", "0.3 write 1 0", "2.6 swap 0 4 4", "1.99 write 2 9", "2.7 swap 2 1 5"}
	m := impl.NewMachine()
	answers := map[string]impl.Result{}
	last := map[int]string{}
	for i, s := range ops {
		o, _ := impl.ParseOp(s)
		next, r, ok := impl.ApplyOp(m, o)
		if !ok {
			t.Fatalf("%s is not applied to %+v", s, m)
		}
		m, answers[s], last[o.Client] = next, r, s
		if want := machineAfter(t, ops[:i+1]...); !sameMachine(m, want) {
			t.Fatalf("after %s the machine is %+v, without repetitions %+v", s, m, want)
		}
		for _, before := range ops[:i+1] {
			old, _ := impl.ParseOp(before)
			if last[old.Client] == before {
				checkApplyOp(t, m, old, m, answers[before], true)
			} else {
				checkApplyOp(t, m, old, m, impl.Result{}, false)
			}
			m, _, _ = impl.ApplyOp(m, old)
		}
	}
	if got := impl.FormatMachine(m); got != "409 0.3+3 1.99+0 2.7-9" {
		t.Errorf("the last machine is %q", got)
	}
}

func TestRepeatedOperationReturnsTheFirstResult(t *testing.T) {
	m := machineAfter(t, "0.1 write 0 5", "1.1 swap 0 5 6", "2.1 swap 0 5 7")
	results := map[string]impl.Result{
		"0.1 write 0 5":  {Done: true, Value: 0},
		"1.1 swap 0 5 6": {Done: true, Value: 5},
		"2.1 swap 0 5 7": {Done: false, Value: 6},
	}
	for range 3 {
		for s, want := range results {
			o, _ := impl.ParseOp(s)
			checkApplyOp(t, m, o, m, want, true)
		}
	}
}

// roomyMachine returns a copy of a machine whose slices have spare capacity filled with
// numbers that must stay, and these slices with their whole capacity.
func roomyMachine(m impl.Machine) (impl.Machine, impl.Machine) {
	objects := append(slices.Clone(m.Objects), 71, 72, 73, 74)
	sessions := append(slices.Clone(m.Sessions), session(81, 82, true, 83), session(84, 85, true, 86), session(87, 88, false, 89), session(90, 91, true, 92))
	whole := impl.Machine{Objects: objects, Sessions: sessions}
	return impl.Machine{Objects: objects[:len(m.Objects)], Sessions: sessions[:len(m.Sessions)]}, whole
}

// spoilMachine overwrites the memory of a machine with its unused capacity.
func spoilMachine(m impl.Machine) {
	for i := range m.Objects[:cap(m.Objects)] {
		m.Objects[:cap(m.Objects)][i] = 55
	}
	for i := range m.Sessions[:cap(m.Sessions)] {
		m.Sessions[:cap(m.Sessions)][i] = session(56, 57, true, 58)
	}
}

// The operations are applied, repeated, older than the session, and not valid.
func TestApplyOpKeepsItsArgumentAndReturnsNewMemory(t *testing.T) {
	ops := append(validOps(), impl.Op{Client: 1, Seq: 2, Kind: impl.OpWrite, Value: 9}, impl.Op{Client: 1, Seq: 1, Kind: impl.OpWrite, Value: 9}, impl.Op{})
	for _, o := range ops {
		for _, m := range append(fewMachines(), wrongMachines()...) {
			arg, whole := roomyMachine(m)
			before := copyOfMachine(whole)
			got, r, ok := impl.ApplyOp(arg, o)
			if !sameMachine(whole, before) {
				t.Fatalf("ApplyOp(%+v, %+v) changes the memory of the machine to %+v", m, o, whole)
			}
			want := copyOfMachine(got)
			spoilMachine(whole)
			if !sameMachine(got, want) {
				t.Fatalf("ApplyOp(%+v, %+v) shares memory with the machine", m, o)
			}
			whole.Objects, whole.Sessions = append(whole.Objects[:0], before.Objects...), append(whole.Sessions[:0], before.Sessions...)
			spoilMachine(got)
			if !sameMachine(whole, before) {
				t.Fatalf("ApplyOp(%+v, %+v) shares memory with the machine", m, o)
			}
			if again, rAgain, okAgain := impl.ApplyOp(m, o); !sameMachine(again, want) || rAgain != r || okAgain != ok {
				t.Fatalf("the second ApplyOp(%+v, %+v) = %+v, %+v, %v", m, o, again, rAgain, okAgain)
			}
		}
	}
}

func TestSessionOf(t *testing.T) {
	several := []impl.Session{session(1, 4, true, 5), session(0, 3, false, 2), session(1, 9, false, 6), session(-7, 0, true, -8), session(100, 200, false, 300), session(-7, 1, false, 1)}
	for _, c := range []struct {
		sessions []impl.Session
		client   int
		want     impl.Session
		ok       bool
	}{
		{nil, 0, impl.Session{}, false},
		{[]impl.Session{}, 1, impl.Session{}, false},
		{[]impl.Session{session(0, 1, false, 5), session(1, 2, true, 0)}, 0, session(0, 1, false, 5), true},
		{[]impl.Session{session(0, 1, false, 5), session(1, 2, true, 0)}, 1, session(1, 2, true, 0), true},
		{[]impl.Session{session(0, 1, false, 5), session(1, 2, true, 0)}, 2, impl.Session{}, false},
		{[]impl.Session{session(0, 1, false, 5), session(1, 2, true, 0)}, -1, impl.Session{}, false},
		{[]impl.Session{session(0, 1, false, 5), session(1, 2, true, 0)}, 3, impl.Session{}, false},
		{[]impl.Session{session(0, 1, false, 5), session(2, 99, true, 9)}, 2, session(2, 99, true, 9), true},
		{[]impl.Session{session(1, 1, false, 5)}, 0, impl.Session{}, false},
		// The machine need not be valid, and the first of several sessions counts.
		{several, 1, session(1, 4, true, 5), true},
		{several, 0, session(0, 3, false, 2), true},
		{several, -7, session(-7, 0, true, -8), true},
		{several, 100, session(100, 200, false, 300), true},
		{several, 2, impl.Session{}, false},
		{[]impl.Session{session(math.MinInt, math.MaxInt, true, math.MinInt)}, math.MinInt, session(math.MinInt, math.MaxInt, true, math.MinInt), true},
		{[]impl.Session{session(1<<32, 1, true, 1)}, 0, impl.Session{}, false},
	} {
		for _, objects := range [][]int{{1, 2, 3}, nil, {10}, make([]int, 9)} {
			m := impl.Machine{Objects: objects, Sessions: c.sessions}
			if got, ok := impl.SessionOf(m, c.client); got != c.want || ok != c.ok {
				t.Errorf("SessionOf(%+v, %d) = %+v, %v, want %+v, %v", m, c.client, got, ok, c.want, c.ok)
			}
		}
	}
}

func TestReadObject(t *testing.T) {
	for _, m := range fewMachines() {
		for object, want := range m.Objects {
			if got, ok := impl.ReadObject(m, object); got != want || !ok {
				t.Errorf("ReadObject(%+v, %d) = %d, %v, want %d, true", m, object, got, ok, want)
			}
		}
		for _, object := range append(farNumbers(), 3, 4, 5) {
			if got, ok := impl.ReadObject(m, object); got != 0 || ok {
				t.Errorf("ReadObject(%+v, %d) = %d, %v, want 0, false", m, object, got, ok)
			}
		}
	}
}

func TestReadObjectRejectsInvalidMachines(t *testing.T) {
	for _, m := range wrongMachines() {
		for _, object := range []int{-1, 0, 1, 2, 3, 4} {
			if got, ok := impl.ReadObject(m, object); got != 0 || ok {
				t.Errorf("ReadObject(%+v, %d) = %d, %v, want 0, false", m, object, got, ok)
			}
		}
	}
}

// The machines of the list differ from one another.
func TestEqualMachines(t *testing.T) {
	two := []impl.Session{session(0, 1, false, 5), session(1, 2, true, 0)}
	list := []impl.Machine{
		{},
		{Objects: []int{0, 0, 0}},
		{Objects: []int{0, 0}},
		{Objects: []int{0, 0, 0, 0}},
		{Objects: []int{1, 0, 0}},
		{Objects: []int{0, 1, 0}},
		{Objects: []int{0, 0, 1}},
		{Objects: []int{0, 0, 256}},
		{Objects: []int{0, 0, -1}},
		{Objects: []int{0, 0, math.MaxInt}},
		{Objects: []int{0, 0, math.MinInt}},
		{Sessions: two},
		{Objects: []int{0, 0, 0}, Sessions: two},
		{Objects: []int{0, 0, 0}, Sessions: two[:1]},
		{Objects: []int{0, 0, 0}, Sessions: two[1:]},
		{Objects: []int{0, 0, 0}, Sessions: []impl.Session{two[1], two[0]}},
		{Objects: []int{0, 0, 0}, Sessions: []impl.Session{two[0], two[0]}},
		{Objects: []int{0, 0, 0}, Sessions: []impl.Session{two[0], two[1], two[1]}},
		{Objects: []int{0, 0, 0}, Sessions: []impl.Session{two[0], session(2, 2, true, 0)}},
		{Objects: []int{0, 0, 0}, Sessions: []impl.Session{two[0], session(1, 3, true, 0)}},
		{Objects: []int{0, 0, 0}, Sessions: []impl.Session{two[0], session(1, 2, false, 0)}},
		{Objects: []int{0, 0, 0}, Sessions: []impl.Session{two[0], session(1, 2, true, 1)}},
		{Objects: []int{0, 0, 0}, Sessions: []impl.Session{session(2, 1, false, 5), two[1]}},
		{Objects: []int{0, 0, 0}, Sessions: []impl.Session{session(0, 9, false, 5), two[1]}},
		{Objects: []int{0, 0, 0}, Sessions: []impl.Session{session(0, 1, true, 5), two[1]}},
		{Objects: []int{0, 0, 0}, Sessions: []impl.Session{session(0, 1, false, 6), two[1]}},
		{Objects: []int{0, 0, 0}, Sessions: []impl.Session{{}}},
		{Objects: []int{0, 0, 0}, Sessions: []impl.Session{session(-1, 1<<32, true, math.MinInt)}},
		{Objects: []int{0, 0, 0}, Sessions: []impl.Session{session(-1, 0, true, math.MinInt)}},
		{Objects: []int{10, -1, 0, 4, 5}, Sessions: make([]impl.Session, 100)},
	}
	for i, a := range list {
		for j, b := range list {
			if got := impl.EqualMachines(a, copyOfMachine(b)); got != (i == j) {
				t.Errorf("EqualMachines(%+v, %+v) = %v", a, b, got)
			}
		}
	}
}

func TestEqualMachinesTreatsNilAsEmpty(t *testing.T) {
	for _, c := range [][2]impl.Machine{
		{{}, {Objects: []int{}, Sessions: []impl.Session{}}},
		{{Objects: []int{}}, {Sessions: []impl.Session{}}},
		{{Objects: []int{1, 2, 3}}, {Objects: []int{1, 2, 3}, Sessions: []impl.Session{}}},
		{{Sessions: []impl.Session{session(0, 1, true, 2)}}, {Objects: []int{}, Sessions: []impl.Session{session(0, 1, true, 2)}}},
	} {
		if !impl.EqualMachines(c[0], c[1]) || !impl.EqualMachines(c[1], c[0]) {
			t.Errorf("EqualMachines(%+v, %+v) = false", c[0], c[1])
		}
	}
}

func TestFormatMachineExamples(t *testing.T) {
	for _, c := range []struct {
		m    impl.Machine
		want string
	}{
		{impl.Machine{Objects: []int{5, 0, 0}, Sessions: []impl.Session{session(0, 1, false, 5), session(1, 2, true, 0)}}, "500 0.1-5 1.2+0"},
		{impl.Machine{Objects: []int{0, 0, 0}}, "000"},
		{impl.Machine{Objects: []int{1, 2, 3}, Sessions: []impl.Session{}}, "123"},
		{impl.Machine{Objects: []int{9, 9, 9}, Sessions: []impl.Session{session(0, 99, true, 9), session(1, 99, true, 9), session(2, 99, true, 9)}}, "999 0.99+9 1.99+9 2.99+9"},
		{impl.Machine{Objects: []int{0, 7, 0}, Sessions: []impl.Session{session(2, 10, false, 0)}}, "070 2.10-0"},
		{impl.Machine{}, ""},
	} {
		if got := impl.FormatMachine(c.m); got != c.want {
			t.Errorf("FormatMachine(%+v) = %q, want %q", c.m, got, c.want)
		}
	}
}

func TestFormatMachineRejects(t *testing.T) {
	for _, m := range wrongMachines() {
		if got := impl.FormatMachine(m); got != "" {
			t.Errorf("FormatMachine(%+v) = %q, want the empty string", m, got)
		}
	}
}

func TestMachineFormatIsInverse(t *testing.T) {
	for s, m := range sampleMachines() {
		if !machineFormat.MatchString(s) {
			t.Fatalf("%q is no format", s)
		}
		if got := impl.FormatMachine(m); got != s {
			t.Fatalf("FormatMachine(%+v) = %q, want %q", m, got, s)
		}
		if got, ok := impl.ParseMachine(s); !sameMachine(got, m) || !ok {
			t.Fatalf("ParseMachine(%q) = %+v, %v, want %+v, true", s, got, ok, m)
		}
	}
}

func TestParseMachineRejects(t *testing.T) {
	for _, s := range []string{
		// Missing and additional parts.
		"", " ", "0", "00", "0000", "00a", "none", "0 0 0", "000 ", " 000", "000  ", "000 0", "000 0.", "000 0.1", "000 0.1+", "000 .1+5", "000 0.+5", "000 0+5", "000 1+5",
		"000 +5", "000 5", "000 0.1 5", "000 0.15", "0.1+5", " 0.1+5", "000 0.1+5 ", "000 0.1+5 1", "000 0.1+5 1.2", "000 0.1+5 1.2+", "000 0.1+5 1.2+0 ", "00 0.1+5", "0000 0.1+5",
		"000 0.1+5 1.1+5 2.1+5 ", "000 0.1+5 1.1+5 2.1+5 3.1+5", "000 0.1+5 1.1+5 2.1+5 2.1+5", "000 0.1+5 1.1+5 2.1+5 0.1+5", "000 0.1+5 1.1+5 2.1+5 x", "000 000", "000 0.1+5 000",
		"000 0.1.1+5", "000 0..1+5", "000 0.1++5", "000 0.1+-5", "000 0.1--5", "000 0.1-+5", "000 0.1+5+5", "000 0.1-5-5", "000 0.1+5.", "000 0.1.+5", "000 .0.1+5", "000 0.1+5.5",
		// Sessions out of order and twice for one client.
		"000 1.1+5 0.1+5", "000 2.1+5 1.1+5", "000 0.1+5 2.1+5 1.1+5", "000 2.1+5 1.1+5 0.1+5", "000 0.1+5 0.1+5", "000 0.1+5 0.2+5", "000 0.1+5 1.1+5 1.1+5", "000 2.1+5 2.1+5",
		// Numbers out of range.
		"000 3.1+5", "000 -1.1+5", "000 10.1+5", "000 0.0+5", "000 0.100+5", "000 0.-1+5", "000 0.1+10", "000 0.1-10", "000 0.1+99", "10 0 0", "1000", "-100", "-10", "0-1", "00-1",
		"000 4294967296.1+5", "000 0.4294967297+5", "000 0.1+4294967296", "000 18446744073709551616.1+5", "000 0.18446744073709551617+5", "000 0.1+18446744073709551616", "000 256.1+5", "000 0.257+5",
		// Zeros, signs and other digits.
		"000 00.1+5", "000 0.01+5", "000 0.1+05", "000 0.1-05", "000 01.1+5", "000 -0.1+5", "000 +0.1+5", "000 0.+1+5", "000 0.-1-5", "000 0.1+ 5", "000 0.1+-0", "000 0.1--0", "000 -0.1-0",
		"+000", "-000", "0+0", "+00", "-00", "0x0", "0a0", "0b1", "000 0.a+5", "000 a.1+5", "000 0.1+a", "000 0.1*5", "000 0.1=5", "000 0.1\u22125", "000 0.1\uff0b5", "000 0.1_0+5",
		"\u0660\u0660\u0660", "0\u0661", "\u06610", "\uff10", "\u0660", "000 0.\u0661+5", "000 \u0660.1+5", "000 0.1+\u0665", "\U00010030", "/00", "00:", ":00", "0/0",
		// Spaces and separators.
		"000  0.1+5", "000 0.1+5  1.1+5", "000\t0.1+5", "000\n0.1+5", "000\u00a00.1+5", "000,0.1+5", "000;0.1+5", "0000.1+5", "000 0.1+51.1+5", "000 0.1+5,1.1+5", "000\n", "000 0.1+5\n",
		"000 0 .1+5", "000 0. 1+5", "000 0.1 +5", "0 00", "000 0,1+5", "000 0:1+5", "\n000", "000\r", "000 0.1+5\r\n",
		// Further bytes.
		"\x00\x00\x00", "\x00", "\xff\xff\xff", "00\x00", "00\xff", "\xff00", "000\x00", "\x00000", "000 0.1+5\x00", "000 \x00.1+5", "000 0.\x01+5", "000 0.1+\x05", "000\xff0.1+5", "\xef\xbb\xbf000",
		"1.2 write 0 5", "done 3", strings.Repeat("0", 100000), strings.Repeat(" ", 100000), strings.Repeat(" 0.1+5", 100000), "000" + strings.Repeat(" 0.1+5", 100000),
		"000 " + strings.Repeat("0", 100000) + ".1+5", "000 0." + strings.Repeat("9", 100000) + "+5", "000 0.1+" + strings.Repeat("5", 100000), "000 0.1" + strings.Repeat("+", 100000), "000 " + strings.Repeat(".", 100000),
	} {
		if got, ok := impl.ParseMachine(s); !isZeroMachine(got) || ok {
			t.Errorf("ParseMachine(%.40q) = %+v, %v, want the zero value and false", s, got, ok)
		}
	}
}

// checkParseMachine compares ParseMachine with the regular expression, and what it
// accepts with the format.
func checkParseMachine(t *testing.T, s string) {
	t.Helper()
	want := machineFormat.MatchString(s)
	got, ok := impl.ParseMachine(s)
	if ok != want || !ok && !isZeroMachine(got) || ok && impl.FormatMachine(got) != s {
		t.Fatalf("ParseMachine(%q) = %+v, %v, want %v", s, got, ok, want)
	}
}

func TestParseMachineOfStringsBesideFormats(t *testing.T) {
	for _, s := range []string{"000", "999", "500 0.1-5 1.2+0", "070 2.10-0", "123 1.9+9", "999 0.99+9 1.99+9 2.99+9", "000 0.1-0 1.1-0 2.1-0", "432 0.42+1 2.43-8"} {
		if !machineFormat.MatchString(s) {
			t.Fatalf("%q is no format", s)
		}
		checkParseMachine(t, s)
		for _, beside := range stringsBeside(s) {
			checkParseMachine(t, beside)
		}
	}
}

func TestParseMachineOfAllShortStrings(t *testing.T) {
	for length := range 4 {
		for _, s := range stringsOver("0129 +-./:a\x00\xff", length) {
			checkParseMachine(t, s)
			checkParseMachine(t, "000"+s)
			checkParseMachine(t, "000 "+s+".1+5")
			checkParseMachine(t, "000 0."+s+"+5")
			checkParseMachine(t, "000 0.1+"+s)
			checkParseMachine(t, "000 0.1"+s)
		}
	}
	for _, s := range stringsOver("01.+- ", 6) {
		checkParseMachine(t, s)
		checkParseMachine(t, "000 "+s)
	}
}

func TestParseMachineOfAllCombinationsOfParts(t *testing.T) {
	sessions := []string{"0.1+5", "1.2-0", "2.99+9", "0.50-9", "2.1-1", "3.1+5", "1.100+5", "1.0+5", "1.1+10", "01.1+5", "1.01+5", "1.1", "", "000", "1.1*5", "-1.1+5"}
	for _, objects := range []string{"000", "987", "00", "0000", "00a", ""} {
		for _, first := range sessions {
			checkParseMachine(t, objects+" "+first)
			for _, second := range sessions {
				checkParseMachine(t, objects+" "+first+" "+second)
				for _, third := range sessions {
					checkParseMachine(t, objects+" "+first+" "+second+" "+third)
					checkParseMachine(t, objects+" "+first+" "+second+" "+third+" 2.1+5")
				}
			}
		}
	}
}

func TestParseMachineReturnsNewMemory(t *testing.T) {
	for _, s := range []string{"500 0.1-5 1.2+0", "000", "999 0.99+9 1.99+9 2.99+9"} {
		first, _ := impl.ParseMachine(s)
		want := copyOfMachine(first)
		spoilMachine(first)
		if second, ok := impl.ParseMachine(s); !sameMachine(second, want) || !ok {
			t.Errorf("the second ParseMachine(%q) = %+v, %v", s, second, ok)
		}
	}
}

// The functions that only look at a machine leave it and its memory as it was.
func TestMachineFunctionsKeepTheirArguments(t *testing.T) {
	for _, m := range append(fewMachines(), wrongMachines()...) {
		arg, whole := roomyMachine(m)
		before := copyOfMachine(whole)
		impl.IsValidMachine(arg)
		impl.SessionOf(arg, 1)
		impl.ReadObject(arg, 1)
		impl.EqualMachines(arg, arg)
		impl.FormatMachine(arg)
		if !sameMachine(whole, before) {
			t.Fatalf("the memory of %+v becomes %+v", m, whole)
		}
	}
}
