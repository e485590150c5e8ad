package tests

import (
	"math"
	"math/rand/v2"
	"regexp"
	"slices"
	"strconv"
	"strings"
	"testing"

	"loop.example/g01926/impl"
)

// The tests of this file check promise 3 for logs, a machine applies every
// operation once and repeats the result of the last one of each client, and promise
// 2 for logs: they can be parsed from their string format, and no other strings are
// accepted.

// entryFormat matches the formats of single valid entries and nothing else.
var entryFormat = regexp.MustCompile(`\A([1-9]|1[0-9]|20):([0-2])\.([1-9][0-9]?) (?:write ([0-2]) ([0-9])|swap ([0-2]) ([0-9]) ([0-9]))\z`)

func writeEntry(epoch int, client int, seq int, object int, value int) impl.Entry {
	return impl.Entry{Epoch: epoch, Op: impl.Op{Client: client, Seq: seq, Kind: impl.OpWrite, Object: object, Value: value}}
}

func swapEntry(epoch int, client int, seq int, object int, old int, value int) impl.Entry {
	return impl.Entry{Epoch: epoch, Op: impl.Op{Client: client, Seq: seq, Kind: impl.OpSwap, Object: object, Old: old, Value: value}}
}

// number returns the number of digits that a regular expression has matched.
func number(digits string) int {
	n, _ := strconv.Atoi(digits)
	return n
}

// expectedParseLog is independent of the program.
func expectedParseLog(s string) ([]impl.Entry, bool) {
	if s == "none" {
		return nil, true
	}
	var l []impl.Entry
	for _, part := range strings.Split(s, ";") {
		p := entryFormat.FindStringSubmatch(part)
		if p == nil || len(l) == 16 {
			return nil, false
		}
		e := writeEntry(number(p[1]), number(p[2]), number(p[3]), number(p[4]), number(p[5]))
		if p[4] == "" {
			e = swapEntry(number(p[1]), number(p[2]), number(p[3]), number(p[6]), number(p[7]), number(p[8]))
		}
		if len(l) > 0 && e.Epoch < l[len(l)-1].Epoch {
			return nil, false
		}
		l = append(l, e)
	}
	return l, true
}

// parsedLog returns the log with a format that must be correct.
func parsedLog(t *testing.T, s string) []impl.Entry {
	t.Helper()
	l, ok := expectedParseLog(s)
	if !ok {
		t.Fatalf("%q is no format", s)
	}
	return l
}

// longLog returns a log with so many entries, no more than 99, and ascending Epochs.
func longLog(length int) []impl.Entry {
	var l []impl.Entry
	for i := range length {
		if i%3 == 2 {
			l = append(l, swapEntry(min(1+i/2, 20), i%2, i+1, i%3, i%10, 9-i%10))
		} else {
			l = append(l, writeEntry(min(1+i/2, 20), i%3, i+1, (i+1)%3, i%10))
		}
	}
	return l
}

// fewLogs returns logs of different lengths, from the empty one to a full one, and
// with the least and the greatest values of each field.
func fewLogs() [][]impl.Entry {
	equal := make([]impl.Entry, 16)
	greatest := make([]impl.Entry, 16)
	for i := range equal {
		equal[i] = writeEntry(1, 0, 1, 0, 0)
		greatest[i] = swapEntry(20, 2, 99, 2, 9, 9)
	}
	return [][]impl.Entry{
		nil,
		{},
		{writeEntry(1, 0, 1, 0, 0)},
		{swapEntry(20, 2, 99, 2, 9, 9)},
		{writeEntry(1, 0, 1, 0, 5), swapEntry(1, 1, 1, 0, 5, 6), writeEntry(2, 0, 2, 2, 9)},
		{writeEntry(1, 0, 1, 0, 5), writeEntry(20, 0, 1, 0, 5)},
		{writeEntry(3, 1, 9, 1, 7), writeEntry(3, 1, 8, 1, 6), swapEntry(9, 1, 9, 1, 7, 1), writeEntry(10, 2, 10, 0, 3)},
		longLog(5), longLog(15), longLog(16), equal, greatest,
	}
}

// wrongEntries returns entries in which the Epoch or the operation is not valid.
func wrongEntries() []impl.Entry {
	var wrong []impl.Entry
	for _, o := range validOps() {
		for _, epoch := range append(farNumbers(), 0, 21, 22, 99) {
			wrong = append(wrong, impl.Entry{Epoch: epoch, Op: o})
		}
	}
	for _, o := range wrongOps() {
		wrong = append(wrong, impl.Entry{Epoch: 1, Op: o}, impl.Entry{Epoch: 20, Op: o})
	}
	return append(wrong, impl.Entry{})
}

// wrongLogs returns lists that are not logs.
func wrongLogs() [][]impl.Entry {
	a, b, c := writeEntry(1, 0, 1, 0, 5), swapEntry(2, 1, 1, 0, 5, 6), writeEntry(20, 2, 1, 1, 7)
	wrong := [][]impl.Entry{
		{b, a}, {c, a}, {c, b}, {a, c, b}, {b, a, c}, {c, b, a}, {b, c, a}, {a, b, a}, {a, a, b, b, a}, {a, c, c, b},
		longLog(17), longLog(18), longLog(99), make([]impl.Entry, 16), make([]impl.Entry, 17), make([]impl.Entry, 1000),
		slices.Repeat([]impl.Entry{a}, 17), slices.Repeat([]impl.Entry{c}, 17), slices.Repeat([]impl.Entry{a}, 32), slices.Repeat([]impl.Entry{a}, 1000),
		slices.Concat(longLog(15), []impl.Entry{a}), slices.Concat([]impl.Entry{c}, longLog(15)),
	}
	for _, e := range wrongEntries() {
		wrong = append(wrong, []impl.Entry{e}, []impl.Entry{e, a}, []impl.Entry{a, e}, []impl.Entry{a, e, c}, []impl.Entry{a, b, c, e})
	}
	full := longLog(16)
	for _, i := range []int{0, 1, 7, 14, 15} {
		for _, e := range []impl.Entry{{Epoch: full[i].Epoch}, {Epoch: 21, Op: full[i].Op}, {Op: full[i].Op}, {Epoch: -full[i].Epoch, Op: full[i].Op}} {
			l := slices.Clone(full)
			l[i] = e
			wrong = append(wrong, l)
		}
	}
	return wrong
}

func TestLogConstants(t *testing.T) {
	if impl.MaxEntries != 16 || impl.MaxEpoch != 20 {
		t.Error("a constant of chapter 5 has another value")
	}
}

func TestIsLogAccepts(t *testing.T) {
	for _, l := range fewLogs() {
		if !impl.IsLog(l) {
			t.Errorf("IsLog(%+v) = false", l)
		}
	}
	for _, o := range validOps() {
		for epoch := 1; epoch <= 20; epoch++ {
			if l := []impl.Entry{{Epoch: epoch, Op: o}}; !impl.IsLog(l) {
				t.Errorf("IsLog(%+v) = false", l)
			}
		}
	}
}

func TestIsLogRejects(t *testing.T) {
	for _, l := range wrongLogs() {
		if impl.IsLog(l) {
			t.Errorf("IsLog(%+v) = true", l)
		}
	}
}

// The functions that check IsLog agree on every length.
func TestLogsOfAllLengths(t *testing.T) {
	for length := range 99 {
		l := longLog(length)
		want := length <= 16
		if got := impl.IsLog(l); got != want {
			t.Errorf("IsLog of %d entries = %v", length, got)
		}
		if got := impl.FormatLog(l); (got != "") != want {
			t.Errorf("FormatLog of %d entries = %q", length, got)
		}
		if _, ok := impl.ReplayLog(l); ok != want {
			t.Errorf("ReplayLog of %d entries returns %v", length, ok)
		}
		if _, ok := impl.ResultAt(l, 0); ok != (want && length > 0) {
			t.Errorf("ResultAt the index 0 of %d entries returns %v", length, ok)
		}
		if _, ok := impl.AppendEntry(l, writeEntry(20, 2, 99, 0, 0)); ok != (length < 16) {
			t.Errorf("AppendEntry to %d entries returns %v", length, ok)
		}
	}
}

func TestLogsWithAllListsOfEpochs(t *testing.T) {
	for _, epochs := range listsOver([]int{-1, 0, 1, 2, 19, 20, 21}, 4) {
		var l []impl.Entry
		want := slices.IsSorted(epochs)
		for i, epoch := range epochs {
			l = append(l, writeEntry(epoch, 1, 10-i, 2, i))
			want = want && epoch >= 1 && epoch <= 20
		}
		if got := impl.IsLog(l); got != want {
			t.Errorf("IsLog with the Epochs %v = %v", epochs, got)
		}
		if got := impl.FormatLog(l); (got != "") != want {
			t.Errorf("FormatLog with the Epochs %v = %q", epochs, got)
		}
		if len(l) > 0 {
			last := len(l) - 1
			if _, ok := impl.AppendEntry(l[:last], l[last]); ok != want {
				t.Errorf("AppendEntry with the Epochs %v returns %v", epochs, ok)
			}
		}
	}
}

func checkAppendEntry(t *testing.T, l []impl.Entry, e impl.Entry, want []impl.Entry, wantOk bool) {
	t.Helper()
	if got, ok := impl.AppendEntry(l, e); !slices.Equal(got, want) || ok != wantOk {
		t.Fatalf("AppendEntry(%+v, %+v) = %+v, %v, want %+v, %v", l, e, got, ok, want, wantOk)
	}
}

// checkEpochsAfter appends an operation with all Epochs.
func checkEpochsAfter(t *testing.T, l []impl.Entry, o impl.Op) {
	t.Helper()
	least := 1
	if len(l) > 0 {
		least = l[len(l)-1].Epoch
	}
	for _, epoch := range append(farNumbers(), 0, 1, 2, 3, 4, 5, 6, 7, 8, 9, 10, 11, 12, 13, 14, 15, 16, 17, 18, 19, 20, 21, 22) {
		e := impl.Entry{Epoch: epoch, Op: o}
		if epoch >= least && epoch <= 20 && len(l) < 16 {
			checkAppendEntry(t, l, e, slices.Concat(l, []impl.Entry{e}), true)
		} else {
			checkAppendEntry(t, l, e, l, false)
		}
	}
}

func TestAppendEntry(t *testing.T) {
	for _, l := range fewLogs() {
		for _, o := range validOps() {
			checkEpochsAfter(t, l, o)
		}
		// The entry need not be new.
		for _, e := range l {
			checkEpochsAfter(t, l, e.Op)
		}
		for _, e := range wrongEntries() {
			checkAppendEntry(t, l, e, l, false)
		}
	}
}

func TestAppendEntryOneByOne(t *testing.T) {
	full := longLog(16)
	var l []impl.Entry
	for i, e := range full {
		checkAppendEntry(t, l, e, full[:i+1], true)
		l, _ = impl.AppendEntry(l, e)
	}
	checkAppendEntry(t, l, full[15], full, false)
	checkAppendEntry(t, l, writeEntry(20, 0, 99, 0, 0), full, false)
	checkAppendEntry(t, l, impl.Entry{}, full, false)
}

func TestAppendEntryRejectsOtherLists(t *testing.T) {
	for _, l := range wrongLogs() {
		for _, e := range []impl.Entry{writeEntry(20, 2, 99, 2, 9), writeEntry(1, 0, 1, 0, 0), swapEntry(20, 1, 50, 1, 5, 5), {}, {Epoch: math.MaxInt}} {
			checkAppendEntry(t, l, e, l, false)
		}
	}
}

// roomyLog returns a copy of a list that is a part of a longer one whose further
// entries must stay, and that one.
func roomyLog(l []impl.Entry) ([]impl.Entry, []impl.Entry) {
	whole := slices.Concat(l, longLog(99))
	return whole[:len(l)], whole
}

// spoilLog overwrites the memory of a list with its unused capacity.
func spoilLog(l []impl.Entry) {
	for i := range l[:cap(l)] {
		l[:cap(l)][i] = impl.Entry{Epoch: 55, Op: impl.Op{Client: 56, Seq: 57, Kind: 58, Object: 59, Old: 60, Value: 61}}
	}
}

// The entries are appended to logs and not appended to logs and other lists.
func TestAppendEntryKeepsItsArgumentAndReturnsNewMemory(t *testing.T) {
	for _, e := range []impl.Entry{writeEntry(20, 2, 99, 2, 9), writeEntry(1, 1, 50, 1, 5), {}} {
		for _, l := range append(fewLogs(), wrongLogs()...) {
			arg, whole := roomyLog(l)
			before := slices.Clone(whole)
			got, ok := impl.AppendEntry(arg, e)
			if !slices.Equal(whole, before) {
				t.Fatalf("AppendEntry(%+v, %+v) changes the memory of the list to %+v", l, e, whole)
			}
			want := slices.Clone(got)
			spoilLog(whole)
			if !slices.Equal(got, want) {
				t.Fatalf("AppendEntry(%+v, %+v) shares memory with the list", l, e)
			}
			copy(whole, before)
			spoilLog(got)
			if !slices.Equal(whole, before) {
				t.Fatalf("AppendEntry(%+v, %+v) shares memory with the list", l, e)
			}
			if again, okAgain := impl.AppendEntry(l, e); !slices.Equal(again, want) || okAgain != ok {
				t.Fatalf("the second AppendEntry(%+v, %+v) = %+v, %v", l, e, again, okAgain)
			}
		}
	}
}

// Two logs that begin with the same answer of AppendEntry do not overwrite each other.
func TestAppendEntryTwiceToOneLog(t *testing.T) {
	for length := range 15 {
		l, _ := impl.AppendEntry(longLog(length), writeEntry(18, 0, 50, 0, 0))
		first, _ := impl.AppendEntry(l, writeEntry(19, 1, 51, 1, 1))
		second, _ := impl.AppendEntry(l, writeEntry(20, 2, 52, 2, 2))
		begin := slices.Concat(longLog(length), []impl.Entry{writeEntry(18, 0, 50, 0, 0)})
		if !slices.Equal(l, begin) {
			t.Errorf("the log becomes %+v", l)
		}
		if want := slices.Concat(begin, []impl.Entry{writeEntry(19, 1, 51, 1, 1)}); !slices.Equal(first, want) {
			t.Errorf("the first log becomes %+v, want %+v", first, want)
		}
		if want := slices.Concat(begin, []impl.Entry{writeEntry(20, 2, 52, 2, 2)}); !slices.Equal(second, want) {
			t.Errorf("the second log becomes %+v, want %+v", second, want)
		}
	}
}

// checkCommonPrefix compares CommonPrefix and IsPrefix with the number of entries
// that are wanted, in both orders.
func checkCommonPrefix(t *testing.T, a []impl.Entry, b []impl.Entry, want int) {
	t.Helper()
	for range 2 {
		if got := impl.CommonPrefix(a, b); got != want {
			t.Errorf("CommonPrefix(%+v, %+v) = %d, want %d", a, b, got, want)
		}
		if got := impl.IsPrefix(a, b); got != (want == len(a)) {
			t.Errorf("IsPrefix(%+v, %+v) = %v", a, b, got)
		}
		a, b = b, a
	}
}

func TestCommonPrefixOfPrefixes(t *testing.T) {
	for _, l := range append(fewLogs(), longLog(99), wrongLogs()[0], make([]impl.Entry, 40)) {
		for short := range len(l) + 1 {
			checkCommonPrefix(t, l, l[:short], short)
			checkCommonPrefix(t, l, slices.Clone(l[:short]), short)
		}
		checkCommonPrefix(t, l, nil, 0)
		checkCommonPrefix(t, l, []impl.Entry{}, 0)
	}
}

// changedEntries returns entries that differ from this one in one field, also if
// some bits were lost.
func changedEntries(e impl.Entry) []impl.Entry {
	var changed []impl.Entry
	for _, difference := range []int{1, -1, 2, 10, 100, 256, -256, 1 << 16, 1 << 32, -1 << 32, 1 << 62, math.MinInt} {
		for _, field := range []func(*impl.Entry) *int{
			func(e *impl.Entry) *int { return &e.Epoch },
			func(e *impl.Entry) *int { return &e.Op.Client },
			func(e *impl.Entry) *int { return &e.Op.Seq },
			func(e *impl.Entry) *int { return &e.Op.Kind },
			func(e *impl.Entry) *int { return &e.Op.Object },
			func(e *impl.Entry) *int { return &e.Op.Old },
			func(e *impl.Entry) *int { return &e.Op.Value },
		} {
			other := e
			*field(&other) += difference
			changed = append(changed, other)
		}
	}
	return changed
}

func TestCommonPrefixComparesEveryField(t *testing.T) {
	for _, l := range [][]impl.Entry{longLog(1), longLog(4), longLog(16), longLog(20), make([]impl.Entry, 3)} {
		for i, e := range l {
			for _, other := range changedEntries(e) {
				changed := slices.Clone(l)
				changed[i] = other
				checkCommonPrefix(t, l, changed, i)
				// The shorter one ends with the difference.
				checkCommonPrefix(t, l, changed[:i+1], i)
				checkCommonPrefix(t, l[:i+1], changed, i)
				// A further difference does not count.
				changed[len(l)-1] = impl.Entry{Epoch: -1}
				checkCommonPrefix(t, l, changed, i)
			}
		}
	}
}

// The operations are the same in another order, with a gap, or shifted.
func TestCommonPrefixOfOtherLists(t *testing.T) {
	l := longLog(6)
	for i := range l {
		checkCommonPrefix(t, l, slices.Delete(slices.Clone(l), i, i+1), i)
		checkCommonPrefix(t, l, slices.Insert(slices.Clone(l), i, impl.Entry{Epoch: 7}), i)
	}
	checkCommonPrefix(t, l, l[1:], 0)
	checkCommonPrefix(t, l, []impl.Entry{l[0], l[2], l[1], l[3], l[4], l[5]}, 1)
	reversed := slices.Clone(l)
	slices.Reverse(reversed)
	checkCommonPrefix(t, l, reversed, 0)
}

func TestCommonPrefixOfAllShortLists(t *testing.T) {
	entries := []impl.Entry{writeEntry(1, 0, 1, 0, 5), writeEntry(2, 0, 1, 0, 5), {}}
	lists := listsOver([]int{0, 1, 2}, 3)
	listOf := func(choices []int) []impl.Entry {
		var l []impl.Entry
		for _, choice := range choices {
			l = append(l, entries[choice])
		}
		return l
	}
	for _, a := range lists {
		for _, b := range lists {
			want := 0
			for want < min(len(a), len(b)) && a[want] == b[want] {
				want++
			}
			checkCommonPrefix(t, listOf(a), listOf(b), want)
		}
	}
}

// expectedReplay returns the machine after a log and for each of its entries the
// result and the boolean. It relies on expectedApplyOp and not on the program.
func expectedReplay(l []impl.Entry) (impl.Machine, []impl.Result, []bool) {
	m := impl.Machine{Objects: []int{0, 0, 0}}
	results := make([]impl.Result, len(l))
	applied := make([]bool, len(l))
	for i, e := range l {
		m, results[i], applied[i] = expectedApplyOp(m, e.Op)
	}
	return m, results, applied
}

// checkReplay compares ReplayLog and ResultAt with expectedReplay.
func checkReplay(t *testing.T, l []impl.Entry) {
	t.Helper()
	want, results, applied := expectedReplay(l)
	if got, ok := impl.ReplayLog(l); !sameMachine(got, want) || !ok {
		t.Fatalf("ReplayLog(%+v) = %+v, %v, want %+v, true", l, got, ok, want)
	}
	for i := range l {
		if got, ok := impl.ResultAt(l, i); got != results[i] || ok != applied[i] {
			t.Fatalf("ResultAt(%+v, %d) = %+v, %v, want %+v, %v", l, i, got, ok, results[i], applied[i])
		}
	}
}

func TestReplayLogExamples(t *testing.T) {
	for _, c := range []struct{ log, machine, results string }{
		{"none", "000", ""},
		{"1:0.1 write 0 5", "500 0.1+0", "done 0"},
		{"20:2.99 swap 2 9 9", "000 2.99-0", "kept 0"},
		{"1:0.1 write 0 5;1:1.1 swap 0 5 6;2:0.2 write 2 9", "609 0.2+0 1.1+5", "done 0,done 5,done 0"},
		{"1:0.1 write 0 5;1:1.1 swap 0 4 6;2:2.1 swap 0 5 7", "700 0.1+0 1.1-5 2.1+5", "done 0,kept 5,done 5"},
		// The last operation of a client is repeated.
		{"1:0.1 write 0 5;1:1.1 write 0 6;2:0.1 write 0 5", "600 0.1+0 1.1+5", "done 0,done 5,done 0"},
		{"1:0.1 swap 0 0 5;1:1.1 write 0 0;2:0.1 swap 0 0 5", "000 0.1+0 1.1+5", "done 0,done 5,done 0"},
		{"1:0.1 write 0 5;2:0.1 write 1 7;3:0.1 swap 0 5 7", "500 0.1+0", "done 0,done 0,done 0"},
		// An older operation is skipped, whether it is in the log already or not.
		{"1:0.1 write 0 5;1:0.2 write 0 6;2:0.1 write 0 5", "600 0.2+5", "done 0,done 5,none"},
		{"1:0.2 write 0 6;1:0.1 write 0 5;1:0.3 write 0 7", "700 0.3+6", "done 0,none,done 6"},
		{"1:1.99 write 0 6;1:1.98 write 1 5;1:0.1 write 2 7", "607 0.1+0 1.99+0", "done 0,none,done 0"},
		{"1:2.9 write 1 1;2:2.8 write 1 2;3:2.7 write 1 3;4:2.9 write 1 4", "010 2.9+0", "done 0,none,none,done 0"},
	} {
		l := parsedLog(t, c.log)
		m, ok := impl.ReplayLog(l)
		if got := impl.FormatMachine(m); got != c.machine || !ok {
			t.Errorf("ReplayLog of %s = %q, %v, want %q, true", c.log, got, ok, c.machine)
		}
		for i, want := range strings.Split(c.results, ",") {
			if len(l) == 0 {
				continue
			}
			r, ok := impl.ResultAt(l, i)
			if want == "none" && (ok || r != impl.Result{}) || want != "none" && (!ok || impl.FormatResult(r) != want) {
				t.Errorf("ResultAt %d of %s = %+v, %v, want %s", i, c.log, r, ok, want)
			}
		}
		checkReplay(t, l)
	}
}

// randomLog returns a log in which repeated and older operations are frequent.
func randomLog(random *rand.Rand, length int) []impl.Entry {
	var l []impl.Entry
	epoch := 1
	for i := range length {
		epoch = min(20, epoch+random.IntN(3))
		client, seq, object, value := random.IntN(3), 1+random.IntN(1+i), random.IntN(3), random.IntN(3)
		switch random.IntN(4) {
		case 0:
			if i > 0 {
				l = append(l, impl.Entry{Epoch: epoch, Op: l[random.IntN(i)].Op})
				continue
			}
			fallthrough
		case 1:
			l = append(l, writeEntry(epoch, client, seq, object, value))
		default:
			l = append(l, swapEntry(epoch, client, seq, object, random.IntN(3), value))
		}
	}
	return l
}

func TestReplayOfManyLogs(t *testing.T) {
	for _, l := range fewLogs() {
		checkReplay(t, l)
	}
	random := rand.New(rand.NewPCG(5, 5))
	skipped := 0
	for i := range 5000 {
		l := randomLog(random, i%17)
		checkReplay(t, l)
		_, _, applied := expectedReplay(l)
		if slices.Contains(applied, false) {
			skipped++
		}
	}
	if skipped < 1000 {
		t.Errorf("only %d logs have an operation that is skipped", skipped)
	}
}

// A log with repetitions of the last operation of each client leads to the same
// machine as the log without them.
func TestReplayAppliesEveryOperationOnce(t *testing.T) {
	once := parsedLog(t, "1:0.1 write 0 1;1:1.1 swap 0 1 2;2:0.2 swap 0 2 1;3:2.5 write 0 4;3:1.7 swap 1 0 3")
	want, ok := impl.ReplayLog(once)
	if got := impl.FormatMachine(want); got != "430 0.2+2 1.7+0 2.5+1" || !ok {
		t.Fatalf("ReplayLog = %q, %v", got, ok)
	}
	for i := range once {
		for j := i + 1; j <= len(once); j++ {
			// The entry i is repeated before the entry j, unless its client goes on before.
			if slices.ContainsFunc(once[i+1:j], func(e impl.Entry) bool { return e.Op.Client == once[i].Op.Client }) {
				continue
			}
			repeated := impl.Entry{Epoch: once[j-1].Epoch, Op: once[i].Op}
			twice := slices.Insert(slices.Clone(once), j, repeated, repeated)
			if got, ok := impl.ReplayLog(twice); !sameMachine(got, want) || !ok {
				t.Errorf("ReplayLog(%+v) = %+v, %v, want %+v, true", twice, got, ok, want)
			}
			first, _ := impl.ResultAt(twice, i)
			for _, index := range []int{j, j + 1} {
				if r, ok := impl.ResultAt(twice, index); r != first || !ok {
					t.Errorf("ResultAt(%+v, %d) = %+v, %v, want %+v, true", twice, index, r, ok, first)
				}
			}
		}
	}
}

func TestReplayLogRejects(t *testing.T) {
	for _, l := range wrongLogs() {
		if m, ok := impl.ReplayLog(l); !isZeroMachine(m) || ok {
			t.Fatalf("ReplayLog(%+v) = %+v, %v, want the zero value and false", l, m, ok)
		}
		for _, index := range []int{-1, 0, 1, len(l) - 1, len(l), 15, 16} {
			if r, ok := impl.ResultAt(l, index); r != (impl.Result{}) || ok {
				t.Fatalf("ResultAt(%+v, %d) = %+v, %v, want the zero value and false", l, index, r, ok)
			}
		}
	}
}

func TestReplayLogReturnsNewMemory(t *testing.T) {
	for _, l := range fewLogs() {
		first, _ := impl.ReplayLog(l)
		want := copyOfMachine(first)
		spoilMachine(first)
		if second, ok := impl.ReplayLog(l); !sameMachine(second, want) || !ok {
			t.Errorf("the second ReplayLog(%+v) = %+v, %v", l, second, ok)
		}
	}
}

func TestResultAtIndices(t *testing.T) {
	for _, l := range fewLogs() {
		for _, index := range append(farNumbers(), len(l), len(l)+1, -len(l), 16, 17) {
			if index >= 0 && index < len(l) {
				continue
			}
			if r, ok := impl.ResultAt(l, index); r != (impl.Result{}) || ok {
				t.Errorf("ResultAt(%+v, %d) = %+v, %v, want the zero value and false", l, index, r, ok)
			}
		}
		if len(l) > 0 {
			for _, index := range []int{0, len(l) - 1} {
				_, results, applied := expectedReplay(l)
				if r, ok := impl.ResultAt(l, index); r != results[index] || ok != applied[index] {
					t.Errorf("ResultAt(%+v, %d) = %+v, %v", l, index, r, ok)
				}
			}
		}
	}
}

// The entries behind the index do not count, but the whole list must be a log.
func TestResultAtDependsOnEntriesBefore(t *testing.T) {
	l := parsedLog(t, "1:0.1 write 0 5;1:1.1 swap 0 5 6;2:0.2 write 0 9;2:1.1 swap 0 9 8")
	for length := 2; length <= len(l); length++ {
		if r, ok := impl.ResultAt(l[:length], 1); r != (impl.Result{Done: true, Value: 5}) || !ok {
			t.Errorf("ResultAt(%+v, 1) = %+v, %v", l[:length], r, ok)
		}
	}
	l[3].Epoch = 1
	if r, ok := impl.ResultAt(l, 1); r != (impl.Result{}) || ok {
		t.Errorf("ResultAt(%+v, 1) = %+v, %v, want the zero value and false", l, r, ok)
	}
}

func TestFindOp(t *testing.T) {
	l := parsedLog(t, "1:0.1 write 0 5;1:1.1 swap 0 5 6;2:0.2 write 2 9;3:1.1 write 1 1;3:0.1 write 0 5;4:2.99 write 0 0;20:1.2 write 0 0")
	for _, c := range []struct{ client, seq, want int }{
		{0, 1, 0}, {1, 1, 1}, {0, 2, 2}, {2, 99, 5}, {1, 2, 6},
		{2, 1, -1}, {0, 3, -1}, {2, 2, -1}, {1, 99, -1}, {0, 99, -1}, {0, 0, -1}, {-1, 1, -1}, {3, 1, -1}, {0, -1, -1}, {0, 100, -1},
		{1 << 32, 1, -1}, {0, 1<<32 + 1, -1}, {256, 1, -1}, {0, 257, -1}, {math.MinInt, 1, -1}, {0, math.MaxInt, -1},
	} {
		if got := impl.FindOp(l, c.client, c.seq); got != c.want {
			t.Errorf("FindOp of %d.%d = %d, want %d", c.client, c.seq, got, c.want)
		}
		for length := range l {
			want := c.want
			if want >= length {
				want = -1
			}
			if got := impl.FindOp(l[:length], c.client, c.seq); got != want {
				t.Errorf("FindOp of %d.%d in %d entries = %d, want %d", c.client, c.seq, length, got, want)
			}
		}
	}
}

func TestFindOpInOtherLists(t *testing.T) {
	for _, list := range [][]impl.Entry{nil, {}} {
		if got := impl.FindOp(list, 0, 0); got != -1 {
			t.Errorf("FindOp in no entries = %d", got)
		}
	}
	// Neither the list nor its operations need to be valid.
	l := []impl.Entry{{Epoch: 9, Op: impl.Op{Client: -7, Seq: 100}}, {Epoch: 3, Op: impl.Op{Client: -7, Seq: 5}}, {Op: impl.Op{Client: 5, Seq: -7}}, {}, {Epoch: 3, Op: impl.Op{Client: -7, Seq: 100, Value: 1}}, {Epoch: 1}}
	for _, c := range []struct{ client, seq, want int }{{-7, 100, 0}, {-7, 5, 1}, {5, -7, 2}, {0, 0, 3}, {100, -7, -1}, {5, 5, -1}, {-7, 0, -1}} {
		if got := impl.FindOp(l, c.client, c.seq); got != c.want {
			t.Errorf("FindOp of %d.%d = %d, want %d", c.client, c.seq, got, c.want)
		}
	}
	for i, e := range longLog(99) {
		if got := impl.FindOp(longLog(99), e.Op.Client, e.Op.Seq); got != i {
			t.Errorf("FindOp of %d.%d in a long list = %d, want %d", e.Op.Client, e.Op.Seq, got, i)
		}
	}
}

func TestFormatLogExamples(t *testing.T) {
	for _, c := range []struct {
		l    []impl.Entry
		want string
	}{
		{nil, "none"},
		{[]impl.Entry{}, "none"},
		{[]impl.Entry{writeEntry(1, 0, 1, 0, 5)}, "1:0.1 write 0 5"},
		{[]impl.Entry{swapEntry(20, 2, 99, 2, 9, 8)}, "20:2.99 swap 2 9 8"},
		{[]impl.Entry{writeEntry(1, 0, 1, 0, 5), swapEntry(1, 1, 1, 0, 5, 6), writeEntry(2, 0, 2, 2, 9)}, "1:0.1 write 0 5;1:1.1 swap 0 5 6;2:0.2 write 2 9"},
		{[]impl.Entry{writeEntry(9, 0, 10, 1, 0), writeEntry(10, 0, 1, 1, 0)}, "9:0.10 write 1 0;10:0.1 write 1 0"},
		{[]impl.Entry{writeEntry(2, 0, 1, 0, 5), writeEntry(1, 0, 2, 0, 5)}, ""},
		{[]impl.Entry{{}}, ""},
	} {
		if got := impl.FormatLog(c.l); got != c.want {
			t.Errorf("FormatLog(%+v) = %q, want %q", c.l, got, c.want)
		}
	}
}

func TestFormatLogRejects(t *testing.T) {
	for _, l := range wrongLogs() {
		if got := impl.FormatLog(l); got != "" {
			t.Errorf("FormatLog(%+v) = %q, want the empty string", l, got)
		}
	}
}

// checkParseLog compares ParseLog with expectedParseLog.
func checkParseLog(t *testing.T, s string) {
	t.Helper()
	want, wanted := expectedParseLog(s)
	got, ok := impl.ParseLog(s)
	if !slices.Equal(got, want) || ok != wanted || !ok && got != nil {
		t.Fatalf("ParseLog(%q) = %+v, %v, want %+v, %v", s, got, ok, want, wanted)
	}
	if ok && impl.FormatLog(got) != s {
		t.Fatalf("FormatLog(%+v) = %q, want %q", got, impl.FormatLog(got), s)
	}
}

func TestLogFormatIsInverse(t *testing.T) {
	logs := fewLogs()
	random := rand.New(rand.NewPCG(2, 5))
	for i := range 2000 {
		logs = append(logs, randomLog(random, i%17))
	}
	for _, o := range operations() {
		logs = append(logs, []impl.Entry{{Epoch: 1 + o.Seq%20, Op: o}})
	}
	for _, l := range logs {
		s := impl.FormatLog(l)
		if got, ok := expectedParseLog(s); !slices.Equal(got, l) || !ok {
			t.Fatalf("FormatLog(%+v) = %q", l, s)
		}
		if got, ok := impl.ParseLog(s); !slices.Equal(got, l) || !ok {
			t.Fatalf("ParseLog(%q) = %+v, %v, want %+v, true", s, got, ok, l)
		}
	}
}

func TestParseLogOfAllEpochs(t *testing.T) {
	for epoch := range 120 {
		for _, number := range []string{strconv.Itoa(epoch), strconv.Itoa(-epoch), "0" + strconv.Itoa(epoch), "+" + strconv.Itoa(epoch)} {
			checkParseLog(t, number+":0.1 write 0 5")
			checkParseLog(t, number+":0.1 write 0 5;20:1.1 swap 0 5 6")
			checkParseLog(t, "10:1.1 swap 0 5 6;"+number+":0.1 write 0 5")
		}
	}
}

func TestParseLogOfAllLengths(t *testing.T) {
	for length := 1; length <= 99; length++ {
		var parts []string
		for _, e := range longLog(length) {
			parts = append(parts, strconv.Itoa(e.Epoch)+":"+impl.FormatOp(e.Op))
		}
		s := strings.Join(parts, ";")
		l, ok := impl.ParseLog(s)
		if ok != (length <= 16) || ok && !slices.Equal(l, longLog(length)) || !ok && l != nil {
			t.Errorf("ParseLog of %d entries = %+v, %v", length, l, ok)
		}
		for _, wrong := range []string{s + ";", ";" + s, s + ";;" + s, s + ";none", "none;" + s, s + " ", " " + s} {
			if l, ok := impl.ParseLog(wrong); ok || l != nil {
				t.Errorf("ParseLog(%q) = %+v, %v, want nil and false", wrong, l, ok)
			}
		}
	}
}

func TestParseLogRejects(t *testing.T) {
	for _, s := range []string{
		// Missing and additional parts.
		"", " ", ";", ":", ";;", "1", "1:", "1: ", ":0.1 write 0 5", "0.1 write 0 5", "1 0.1 write 0 5", "1:0.1", "1:0.1 write", "1:0.1 write 0", "1:0.1 write 0 ", "1:write 0 5",
		"1:0.1 swap 0 5", "1:0.1 write 0 5 6", "1:0.1 swap 0 5 6 7", "1:1:0.1 write 0 5", "1::0.1 write 0 5", "1:0.1 write 0 5:", "1:0.1 write 0 5:1", "1:0.1:write 0 5", "1:none", "1:500 1.2+0",
		"1:0.1 write 0 5;", ";1:0.1 write 0 5", "1:0.1 write 0 5;;1:0.2 write 0 5", "1:0.1 write 0 5;1", "1:0.1 write 0 5;1:", "1:0.1 write 0 5;:", "1:0.1 write 0 5;0.2 write 0 5",
		"1:0.1 write 0 5;1:0.2 write 0 5;", "1:0.1 write 0 51:0.2 write 0 5", "1:0.1 write 0 5,1:0.2 write 0 5", "1:0.1 write 0 5 1:0.2 write 0 5", "1:0.1 write 0 5:1:0.2 write 0 5",
		// The word.
		"None", "NONE", "non", "nones", "none;", ";none", "none ", " none", "none;none", "none\n", "none;1:0.1 write 0 5", "1:0.1 write 0 5;none", "non\x00", "nonenone", "nil", "empty", "0", "none:",
		// Numbers out of range and Epochs that descend.
		"0:0.1 write 0 5", "21:0.1 write 0 5", "-1:0.1 write 0 5", "100:0.1 write 0 5", "1:3.1 write 0 5", "1:0.0 write 0 5", "1:0.100 write 0 5", "1:0.1 drop 0 5", "1:0.1 write 3 5", "1:0.1 write 0 10", "1:0.1 swap 0 10 5",
		"2:0.1 write 0 5;1:0.2 write 0 5", "20:0.1 write 0 5;19:0.2 write 0 5", "10:0.1 write 0 5;9:0.2 write 0 5", "1:0.1 write 0 5;2:0.2 write 0 5;1:0.3 write 0 5", "1:0.1 write 0 5;21:0.2 write 0 5", "0:0.1 write 0 5;1:0.2 write 0 5",
		"257:0.1 write 0 5", "65537:0.1 write 0 5", "4294967297:0.1 write 0 5", "18446744073709551617:0.1 write 0 5", "999999999:0.1 write 0 5", "1000000000:0.1 write 0 5", "9223372036854775808:0.1 write 0 5",
		// Zeros, signs and other digits.
		"01:0.1 write 0 5", "001:0.1 write 0 5", "+1:0.1 write 0 5", "-0:0.1 write 0 5", "0x1:0.1 write 0 5", "1e0:0.1 write 0 5", "1_0:0.1 write 0 5", "1.0:0.1 write 0 5", "a:0.1 write 0 5", "\u0661:0.1 write 0 5", "\uff11:0.1 write 0 5",
		"1:00.1 write 0 5", "1:0.01 write 0 5", "1:0.1 write 00 5", "1:0.1 write 0 05", "1:+0.1 write 0 5", "1:-0.1 write 0 5", "1:0.1 write 0 +5", "1:0.1 write 0 -0", "1:0.1 write 0 5;01:0.2 write 0 5", "1:0.1 write 0 5;+1:0.2 write 0 5",
		// Spaces and separators.
		" 1:0.1 write 0 5", "1 :0.1 write 0 5", "1: 0.1 write 0 5", "1:0.1  write 0 5", "1:0.1 write 0 5 ", "1:0.1 write 0 5; 1:0.2 write 0 5", "1:0.1 write 0 5 ;1:0.2 write 0 5", "1:0.1\twrite 0 5", "1:0.1 write 0 5\n", "\n1:0.1 write 0 5",
		"1:0.1 write 0 5;\n1:0.2 write 0 5", "1:0.1 write 0 5\n1:0.2 write 0 5", "1;0.1 write 0 5", "1.0.1 write 0 5", "1,0.1 write 0 5", "1=0.1 write 0 5", "10.1 write 0 5", "1:0.1 write 0 5|1:0.2 write 0 5", "1\uff1a0.1 write 0 5",
		// Further bytes.
		"\x00", "\xff", "1:0.1 write 0 5\x00", "\x001:0.1 write 0 5", "\xff1:0.1 write 0 5", "1\x00:0.1 write 0 5", "1:0.1 write 0 5\x00;1:0.2 write 0 5", "\xef\xbb\xbfnone", "\x01:0.1 write 0 5",
		strings.Repeat(";", 100000), strings.Repeat(":", 100000), strings.Repeat("1:", 100000) + "0.1 write 0 5", strings.Repeat("1:0.1 write 0 5;", 16), strings.Repeat("1:0.1 write 0 5;", 100000), strings.Repeat("1:0.1 write 0 5", 100000),
		strings.Repeat("1:0.1 write 0 5;", 16) + "1:0.1 write 0 5", strings.Repeat("0", 100000) + "1:0.1 write 0 5", strings.Repeat("9", 100000) + ":0.1 write 0 5", "1:0.1 write 0 5" + strings.Repeat(" ", 100000), strings.Repeat("none;", 100000) + "none",
	} {
		if _, ok := expectedParseLog(s); ok {
			t.Fatalf("%.40q is a format", s)
		}
		if got, ok := impl.ParseLog(s); got != nil || ok {
			t.Errorf("ParseLog(%.40q) = %+v, %v, want nil and false", s, got, ok)
		}
	}
}

func TestParseLogOfStringsBesideFormats(t *testing.T) {
	for _, s := range []string{
		"none", "1:0.1 write 0 0", "20:2.99 swap 2 9 9", "9:1.10 write 1 5;10:0.9 swap 0 3 4", "1:0.1 write 0 5;1:1.1 swap 0 5 6;2:0.2 write 2 9",
		impl.FormatLog(longLog(16)), impl.FormatLog(fewLogs()[11]),
	} {
		parsedLog(t, s)
		checkParseLog(t, s)
		for _, beside := range stringsBeside(s) {
			checkParseLog(t, beside)
		}
	}
}

func TestParseLogOfAllShortStrings(t *testing.T) {
	for length := range 4 {
		for _, s := range stringsOver("0129 +-.:;a\x00\xff", length) {
			checkParseLog(t, s)
			checkParseLog(t, s+":0.1 write 0 5")
			checkParseLog(t, "1"+s+"0.1 write 0 5")
			checkParseLog(t, "1:0.1 write 0 5"+s+"2:0.2 write 0 6")
			checkParseLog(t, "2:0.1 write 0 5;"+s+":0.2 write 0 6")
			checkParseLog(t, "2:0.1 write 0 5"+s)
		}
	}
	for length := range 5 {
		for _, s := range stringsOver("none;", length) {
			checkParseLog(t, s)
			checkParseLog(t, s+";1:0.1 write 0 5")
			checkParseLog(t, "1:0.1 write 0 5;"+s)
		}
	}
}

func TestParseLogOfAllCombinationsOfParts(t *testing.T) {
	numbers := []string{"1", "2", "20", "21", "0", "01", "+1", "-1", "", " 1", "a", "none"}
	ops := []string{"0.1 write 0 5", "1.99 swap 2 9 0", "0.1 swap 0 5", "0.1 write 0 5 5", "3.1 write 0 5", "0.0 write 0 5", " 0.1 write 0 5", "0.1 write 0 5 ", "", "none", "1:0.1 write 0 5"}
	var parts []string
	for _, n := range numbers {
		for _, o := range ops {
			parts = append(parts, n+":"+o)
		}
	}
	parts = append(parts, "", "none", "1", "0.1 write 0 5", ":", " ")
	for _, first := range parts {
		checkParseLog(t, first)
		for _, second := range parts {
			checkParseLog(t, first+";"+second)
			checkParseLog(t, "1:0.1 write 0 5;"+first+";"+second)
			checkParseLog(t, first+";"+second+";20:0.2 write 0 6")
		}
	}
}

func TestParseLogReturnsNewMemory(t *testing.T) {
	for _, l := range fewLogs() {
		s := impl.FormatLog(l)
		first, _ := impl.ParseLog(s)
		spoilLog(first)
		if second, ok := impl.ParseLog(s); !slices.Equal(second, l) || !ok {
			t.Errorf("the second ParseLog(%q) = %+v, %v", s, second, ok)
		}
	}
}

// The functions that only look at a list leave it and its memory as it was.
func TestLogFunctionsKeepTheirArguments(t *testing.T) {
	for _, l := range append(fewLogs(), wrongLogs()...) {
		arg, whole := roomyLog(l)
		before := slices.Clone(whole)
		impl.IsLog(arg)
		impl.CommonPrefix(arg, whole)
		impl.IsPrefix(whole, arg)
		impl.ReplayLog(arg)
		for index := range arg {
			impl.ResultAt(arg, index)
		}
		impl.FindOp(arg, 1, 1)
		impl.FormatLog(arg)
		if !slices.Equal(whole, before) {
			t.Fatalf("the memory of %+v becomes %+v", l, whole)
		}
	}
}
