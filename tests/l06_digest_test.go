package tests

import (
	"fmt"
	"math"
	"math/big"
	"math/rand/v2"
	"slices"
	"strings"
	"testing"

	"loop.example/g01926/impl"
)

// The tests of this file check promise 4 for digests: digests of equal prefixes are
// equal. They also check that digests tell other prefixes apart in ordinary cases.

// remainder returns n modulo m.
func remainder(n *big.Int, m int64) int {
	return int(new(big.Int).Mod(n, big.NewInt(m)).Int64())
}

// expectedChecksum is independent of the program: it divides once, at the end.
func expectedChecksum(s string) int {
	sum := big.NewInt(5)
	for i := range len(s) {
		sum.Mul(sum, big.NewInt(257))
		sum.Add(sum, big.NewInt(int64(s[i])+1))
	}
	return remainder(sum, 9949)
}

// entryText returns the format of a log with this valid entry alone.
func entryText(e impl.Entry) string {
	o := e.Op
	if o.Kind == 1 {
		return fmt.Sprintf("%d:%d.%d write %d %d", e.Epoch, o.Client, o.Seq, o.Object, o.Value)
	}
	return fmt.Sprintf("%d:%d.%d swap %d %d %d", e.Epoch, o.Client, o.Seq, o.Object, o.Old, o.Value)
}

// expectedDigests returns the digests of all prefixes of a log. It is independent of
// the program and also divides only at the end.
func expectedDigests(l []impl.Entry) []int {
	digest := big.NewInt(11)
	all := []int{11}
	for _, e := range l {
		digest.Mul(digest, big.NewInt(31))
		digest.Add(digest, big.NewInt(int64(expectedChecksum(entryText(e)))))
		all = append(all, remainder(digest, 9973))
	}
	return all
}

// randomLogs returns so many logs of all lengths.
func randomLogs(seed uint64, count int) [][]impl.Entry {
	random := rand.New(rand.NewPCG(6, seed))
	var logs [][]impl.Entry
	for i := range count {
		logs = append(logs, randomLog(random, i%17))
	}
	return logs
}

// countsAround returns all counts of a list with so many entries and others beside
// and far from them.
func countsAround(length int) []int {
	counts := append(farNumbers(), -length, -length-1, math.MinInt+length, math.MaxInt-length)
	for count := -3; count <= length+3; count++ {
		counts = append(counts, count)
	}
	return counts
}

func TestChecksumExamples(t *testing.T) {
	for _, c := range []struct {
		s    string
		want int
	}{
		{"", 5},
		{"\x00", 1286},
		{"a", 1383},
		{"\x7f", 1413},
		{"\x80", 1414},
		{"\xff", 1541},
		{"ab", 7315},
		{"ba", 7571},
		{"\x00\x00", 2186},
		{"\xff\xff", 8282},
		{"none", 7791},
		{"1:0.1 write 0 5", 6620},
		// Characters of several bytes, and their first and last bytes alone.
		{"\u00e9", 2725},
		{"\u20ac", 2019},
		{"\xc3", 1481},
		{"\xa9", 1455},
		// The least and the greatest checksum.
		{"\x1e\x35", 0},
		{"\x1e\x34", 9948},
		{"2:0.94 write 1 8", 0},
		{"2:0.94 write 1 7", 9948},
	} {
		if got := impl.Checksum(c.s); got != c.want {
			t.Errorf("Checksum(%q) = %d, want %d", c.s, got, c.want)
		}
	}
}

func TestChecksumOfSingleBytes(t *testing.T) {
	for i := range 256 {
		s := allBytes()[i : i+1]
		if got := impl.Checksum(s); got != 5*257+i+1 {
			t.Errorf("Checksum(%q) = %d, want %d", s, got, 5*257+i+1)
		}
	}
}

func TestChecksumOfManyStrings(t *testing.T) {
	samples := []string{allBytes(), strings.Repeat("none;", 50), impl.FormatLog(longLog(16))}
	for length := range 5 {
		samples = append(samples, stringsOver("\x00a\x7f\x80\xfe\xff", length)...)
	}
	random := rand.New(rand.NewPCG(6, 1))
	for length := range 300 {
		b := make([]byte, length)
		for i := range b {
			b[i] = byte(random.IntN(256))
		}
		samples = append(samples, string(b))
	}
	for _, s := range samples {
		if got, want := impl.Checksum(s), expectedChecksum(s); got != want {
			t.Fatalf("Checksum(%q) = %d, want %d", s, got, want)
		}
	}
}

func TestChecksumOfLongStrings(t *testing.T) {
	for _, c := range []struct {
		part  string
		count int
		want  int
	}{
		{allBytes(), 1, 2448},
		{"a", 1000, 7297},
		{"\x00", 100000, 489},
		{"\xff", 100000, 5222},
		{allBytes(), 4000, 7438},
	} {
		if got := impl.Checksum(strings.Repeat(c.part, c.count)); got != c.want {
			t.Errorf("Checksum of %d times %.20q = %d, want %d", c.count, c.part, got, c.want)
		}
	}
}

// The modulus is a prime number, so one other byte always leads to another checksum.
func TestChecksumTellsStringsWithOneOtherByteApart(t *testing.T) {
	for _, s := range []string{
		"a", "\x00", "\xff", "ab", "aaaa", "\x00\x00\x00", "\x80\x7f\x80", "none", "1:0.1 write 0 5", "20:2.99 swap 2 9 9", "500 0.1-5 1.2+0",
		impl.FormatLog(longLog(16)), strings.Repeat("ab", 200),
	} {
		sum := impl.Checksum(s)
		for i := range len(s) {
			b := []byte(s)
			for other := range 256 {
				b[i] = byte(other)
				if same := impl.Checksum(string(b)) == sum; same != (string(b) == s) {
					t.Fatalf("Checksum of %q and %q: equal is %v", s, b, same)
				}
			}
		}
	}
}

func TestChecksumTellsOtherStringsApart(t *testing.T) {
	for _, s := range []string{"ab", "1:0.1 write 0 5", "20:1.42 swap 1 3 4", "none;"} {
		sum := impl.Checksum(s)
		for i := range len(s) {
			// A missing byte, a doubled one, and two exchanged ones.
			others := []string{s[:i] + s[i+1:], s[:i+1] + s[i:]}
			if i > 0 && s[i-1] != s[i] {
				others = append(others, s[:i-1]+s[i:i+1]+s[i-1:i]+s[i+1:])
			}
			for _, other := range others {
				if impl.Checksum(other) == sum {
					t.Errorf("Checksum of %q and %q is %d", s, other, sum)
				}
			}
		}
		for _, other := range []string{"", "\x00" + s, s + "\x00", s + s} {
			if impl.Checksum(other) == sum {
				t.Errorf("Checksum of %q and %q is %d", s, other, sum)
			}
		}
	}
}

// checkDigests compares DigestList and DigestOf with the digests that are wanted.
func checkDigests(t *testing.T, l []impl.Entry, want []int) {
	t.Helper()
	if got := impl.DigestList(l); !slices.Equal(got, want) {
		t.Fatalf("DigestList(%+v) = %v, want %v", l, got, want)
	}
	for _, count := range countsAround(len(l)) {
		digest := -1
		if count >= 0 && count < len(want) {
			digest = want[count]
		}
		if got := impl.DigestOf(l, count); got != digest {
			t.Fatalf("DigestOf(%+v, %d) = %d, want %d", l, count, got, digest)
		}
	}
}

func TestDigestExamples(t *testing.T) {
	for _, c := range []struct {
		log  string
		want []int
	}{
		{"none", []int{11}},
		{"1:0.1 write 0 0", []int{11, 6956}},
		{"1:0.1 write 0 5", []int{11, 6961}},
		{"20:2.99 swap 2 9 9", []int{11, 761}},
		{"1:0.1 write 0 5;1:1.1 swap 0 5 6;2:0.2 write 2 9", []int{11, 6961, 607, 2177}},
		{"1:0.1 write 0 5;1:1.1 swap 0 5 6", []int{11, 6961, 607}},
		// The least and the greatest digest and checksum.
		{"5:0.76 write 0 7", []int{11, 0}},
		{"5:0.76 write 0 6", []int{11, 9972}},
		{"2:0.94 write 1 8", []int{11, 341}},
		{"2:0.94 write 1 7", []int{11, 316}},
	} {
		checkDigests(t, parsedLog(t, c.log), c.want)
	}
}

func TestDigestsOfTheEmptyPrefix(t *testing.T) {
	for _, l := range append(append(fewLogs(), []impl.Entry{}), randomLogs(1, 100)...) {
		if got := impl.DigestOf(l, 0); got != 11 {
			t.Errorf("DigestOf(%+v, 0) = %d, want 11", l, got)
		}
		if got := impl.DigestList(l); len(got) == 0 || got[0] != 11 {
			t.Errorf("DigestList(%+v) = %v, want 11 at first", l, got)
		}
		if !impl.ProvesPrefix(l, 0, 11) || impl.ProvesPrefix(l, 0, 0) || impl.ProvesPrefix(l, 0, -1) {
			t.Errorf("ProvesPrefix(%+v, 0, ...) is wrong", l)
		}
	}
	checkDigests(t, nil, []int{11})
	checkDigests(t, []impl.Entry{}, []int{11})
}

func TestDigestsOfAllLengths(t *testing.T) {
	least := slices.Repeat([]impl.Entry{writeEntry(1, 0, 1, 0, 0)}, 99)
	leastDigests := []int{11, 6956, 2845, 5053, 3690, 1329, 7922, 2872, 5890, 9691, 7846, 516, 2665, 9446, 251, 4423, 4106}
	greatest := slices.Repeat([]impl.Entry{swapEntry(20, 2, 99, 2, 9, 9)}, 99)
	greatestDigests := []int{11, 761, 4065, 6759, 516, 6443, 693, 1957, 1249, 9220, 6996, 7863, 4821, 276, 8976, 9405, 2758}
	longDigests := expectedDigests(longLog(16))
	for length := range 99 {
		if length > 16 {
			checkDigests(t, least[:length], nil)
			checkDigests(t, greatest[:length], nil)
			checkDigests(t, longLog(length), nil)
			continue
		}
		checkDigests(t, least[:length], leastDigests[:length+1])
		checkDigests(t, greatest[:length], greatestDigests[:length+1])
		checkDigests(t, longLog(length), longDigests[:length+1])
	}
}

func TestDigestsOfManyLogs(t *testing.T) {
	for _, l := range append(fewLogs(), randomLogs(2, 3000)...) {
		checkDigests(t, l, expectedDigests(l))
	}
	for _, o := range validOps() {
		for epoch := 1; epoch <= 20; epoch++ {
			l := []impl.Entry{{Epoch: epoch, Op: o}}
			checkDigests(t, l, expectedDigests(l))
		}
	}
	for _, o := range operations() {
		l := []impl.Entry{{Epoch: 1 + o.Seq%20, Op: o}}
		if got, want := impl.DigestList(l), expectedDigests(l); !slices.Equal(got, want) {
			t.Fatalf("DigestList(%+v) = %v, want %v", l, got, want)
		}
	}
}

// The beginning of such a list can be a log; the digests of it do not count then.
func TestDigestsOfOtherLists(t *testing.T) {
	for _, l := range wrongLogs() {
		checkDigests(t, l, nil)
		for _, count := range []int{-1, 0, 1, len(l) - 1, len(l)} {
			for _, digest := range []int{-1, 0, 5, 11, 9972} {
				if impl.ProvesPrefix(l, count, digest) {
					t.Fatalf("ProvesPrefix(%+v, %d, %d) = true", l, count, digest)
				}
			}
		}
	}
}

// The digests of a log begin with those of a shorter one.
func TestDigestsOfEqualPrefixes(t *testing.T) {
	for _, l := range append(fewLogs(), randomLogs(3, 500)...) {
		digests := impl.DigestList(l)
		for short := range len(l) + 1 {
			prefix := slices.Clone(l[:short])
			if got := impl.DigestList(prefix); !slices.Equal(got, digests[:short+1]) {
				t.Fatalf("DigestList(%+v) = %v, want the beginning of %v", prefix, got, digests)
			}
			if got := impl.DigestOf(prefix, short); got != impl.DigestOf(l, short) || !impl.ProvesPrefix(l, short, got) || !impl.ProvesPrefix(prefix, short, digests[short]) {
				t.Fatalf("DigestOf(%+v, %d) = %d does not prove the prefix of %+v", prefix, short, got, l)
			}
			want := short + 1
			if short == len(l) {
				want = -1
			}
			checkFirstDifference(t, digests, impl.DigestList(prefix), want)
		}
	}
}

// Logs that part after a common prefix have its digests in common.
func TestDigestsOfLogsWithACommonPrefix(t *testing.T) {
	random := rand.New(rand.NewPCG(6, 4))
	for _, l := range randomLogs(4, 2000) {
		shared := random.IntN(len(l) + 1)
		other := slices.Clone(l[:shared])
		for len(other) < 16 && random.IntN(4) > 0 {
			other = append(other, writeEntry(20, random.IntN(3), 1+random.IntN(99), random.IntN(3), random.IntN(10)))
		}
		common := impl.CommonPrefix(l, other)
		for count := range common + 1 {
			if a, b := impl.DigestOf(l, count), impl.DigestOf(other, count); a != b || a < 0 {
				t.Fatalf("DigestOf %+v and %+v with the count %d is %d and %d", l, other, count, a, b)
			}
		}
	}
}

// Both moduli are prime, so one entry with another checksum changes the digests of
// all prefixes that contain it.
func TestDigestsTellLogsWithOneOtherEntryApart(t *testing.T) {
	for _, l := range [][]impl.Entry{longLog(1), longLog(5), longLog(16), fewLogs()[4], fewLogs()[10], fewLogs()[11]} {
		for i, e := range l {
			others := []impl.Entry{e, e, e}
			others[0].Op.Value = (e.Op.Value + 1) % 10
			others[1].Op.Object = (e.Op.Object + 1) % 3
			others[2].Op.Client = (e.Op.Client + 1) % 3
			for _, other := range others {
				changed := slices.Clone(l)
				changed[i] = other
				checkFirstDifference(t, impl.DigestList(l), impl.DigestList(changed), i+1)
				for count := range len(l) + 1 {
					if same := impl.DigestOf(l, count) == impl.DigestOf(changed, count); same != (count <= i) {
						t.Fatalf("DigestOf %+v and %+v with the count %d: equal is %v", l, changed, count, same)
					}
					if proved := impl.ProvesPrefix(changed, count, impl.DigestOf(l, count)); proved != (count <= i) {
						t.Fatalf("ProvesPrefix(%+v, %d, the digest of %+v) = %v", changed, count, l, proved)
					}
				}
			}
		}
	}
}

func TestDigestsDependOnTheOrder(t *testing.T) {
	a, b := parsedLog(t, "1:0.1 write 0 5;1:1.1 write 0 6"), parsedLog(t, "1:1.1 write 0 6;1:0.1 write 0 5")
	checkFirstDifference(t, impl.DigestList(a), impl.DigestList(b), 1)
	if impl.DigestOf(a, 2) == impl.DigestOf(b, 2) {
		t.Errorf("DigestOf is %d in both orders", impl.DigestOf(a, 2))
	}
}

func TestDigestListReturnsNewMemory(t *testing.T) {
	for _, l := range append(fewLogs(), wrongLogs()[:30]...) {
		first, second := impl.DigestList(l), impl.DigestList(l)
		want := slices.Clone(second)
		first = first[:cap(first)]
		for i := range first {
			first[i] = 55
		}
		if !slices.Equal(second, want) {
			t.Errorf("two answers of DigestList(%+v) share memory", l)
		}
		if third := impl.DigestList(l); !slices.Equal(third, want) {
			t.Errorf("the third DigestList(%+v) = %v, want %v", l, third, want)
		}
	}
}

func TestDigestFunctionsKeepTheirArguments(t *testing.T) {
	for _, l := range append(fewLogs(), wrongLogs()...) {
		arg, whole := roomyLog(l)
		before := slices.Clone(whole)
		impl.DigestList(arg)
		for _, count := range []int{-1, 0, 1, len(l), len(l) + 1} {
			impl.DigestOf(arg, count)
			impl.ProvesPrefix(arg, count, 11)
			impl.ProvesPrefix(arg, count, -1)
		}
		if !slices.Equal(whole, before) {
			t.Fatalf("the memory of %+v becomes %+v", l, whole)
		}
	}
	for _, c := range [][2][]int{{nil, nil}, {{1, 2, 3}, {1, 2}}, {{1, 2}, {1, 3}}, {{11, 5}, {11, 5}}, {nil, {9, -9}}} {
		a, wholeA := withSpareCapacity(c[0])
		b, wholeB := withSpareCapacity(c[1])
		beforeA, beforeB := slices.Clone(wholeA), slices.Clone(wholeB)
		impl.FirstDifference(a, b)
		impl.FirstDifference(b, a)
		if !slices.Equal(wholeA, beforeA) || !slices.Equal(wholeB, beforeB) {
			t.Errorf("FirstDifference(%v, %v) changes its arguments: %v, %v", c[0], c[1], wholeA, wholeB)
		}
	}
}

// checkFirstDifference compares FirstDifference with the index that is wanted, in
// both orders.
func checkFirstDifference(t *testing.T, a []int, b []int, want int) {
	t.Helper()
	if got := impl.FirstDifference(a, b); got != want {
		t.Fatalf("FirstDifference(%v, %v) = %d, want %d", a, b, got, want)
	}
	if got := impl.FirstDifference(b, a); got != want {
		t.Fatalf("FirstDifference(%v, %v) = %d, want %d", b, a, got, want)
	}
}

func TestFirstDifferenceExamples(t *testing.T) {
	for _, c := range []struct {
		a, b []int
		want int
	}{
		// Equal lists and empty ones.
		{nil, nil, -1}, {nil, []int{}, -1}, {[]int{}, []int{}, -1}, {[]int{0}, []int{0}, -1}, {[]int{11, 5, 7}, []int{11, 5, 7}, -1}, {[]int{-1}, []int{-1}, -1},
		// A list and its prefix.
		{nil, []int{1}, 0}, {nil, []int{0}, 0}, {[]int{}, []int{0, 0, 0}, 0}, {[]int{11}, []int{11, 5}, 1}, {[]int{11, 5}, []int{11, 5, 0}, 2}, {[]int{11}, []int{11, 5, 7, 9}, 1}, {[]int{1, 2, 3}, []int{1, 2, 3, -1}, 3},
		// The first, a middle and the last element differ.
		{[]int{1}, []int{2}, 0}, {[]int{1, 5, 7}, []int{2, 5, 7}, 0}, {[]int{1, 5, 7, 8}, []int{1, 6, 7, 8}, 1}, {[]int{1, 5, 7}, []int{1, 5, 8}, 2}, {[]int{1, 5, 7}, []int{1, 6, 8}, 1}, {[]int{1, 5, 7}, []int{5, 7, 1}, 0},
		// The elements and the lengths differ.
		{[]int{1, 5}, []int{2}, 0}, {[]int{1, 5, 7}, []int{1, 6}, 1}, {[]int{1, 5, 7, 9}, []int{1, 5, 8}, 2}, {[]int{5, 7}, []int{1, 5, 7}, 0},
		// The lists need not be digests.
		{[]int{math.MinInt}, []int{math.MaxInt}, 0}, {[]int{math.MinInt, math.MaxInt}, []int{math.MinInt, math.MaxInt}, -1}, {[]int{1 << 32}, []int{0}, 0}, {[]int{7, 1 << 62}, []int{7, -1 << 62}, 1}, {[]int{256, 1}, []int{0, 1}, 0}, {[]int{3, -1}, []int{3, 1}, 1},
	} {
		checkFirstDifference(t, c.a, c.b, c.want)
	}
}

func TestFirstDifferenceOfAllShortLists(t *testing.T) {
	lists := listsOver([]int{0, 11, -1}, 4)
	for _, a := range lists {
		for _, b := range lists {
			want := -1
			for i := range max(len(a), len(b)) {
				if i >= len(a) || i >= len(b) || a[i] != b[i] {
					want = i
					break
				}
			}
			checkFirstDifference(t, a, b, want)
		}
	}
}

func TestFirstDifferenceOfLongLists(t *testing.T) {
	long := make([]int, 1000)
	for i := range long {
		long[i] = i * i
	}
	checkFirstDifference(t, long, slices.Clone(long), -1)
	for i := range long {
		changed := slices.Clone(long)
		changed[i]++
		checkFirstDifference(t, long, changed, i)
		checkFirstDifference(t, long, changed[:i], i)
		// A further difference does not count.
		changed[len(long)-1] = -1
		checkFirstDifference(t, long, changed, i)
	}
}

// Exactly one digest proves a prefix, and none proves a count out of range.
func TestProvesPrefixWithAllDigests(t *testing.T) {
	zero, greatest := parsedLog(t, "5:0.76 write 0 7"), parsedLog(t, "5:0.76 write 0 6")
	for _, l := range [][]impl.Entry{nil, zero, greatest, longLog(3), fewLogs()[4]} {
		digests := expectedDigests(l)
		for count := -2; count <= len(l)+2; count++ {
			for digest := -20; digest < 2*9973+20; digest++ {
				want := count >= 0 && count <= len(l) && digests[count] == digest
				if got := impl.ProvesPrefix(l, count, digest); got != want {
					t.Fatalf("ProvesPrefix(%+v, %d, %d) = %v", l, count, digest, got)
				}
			}
		}
	}
}

func TestProvesPrefix(t *testing.T) {
	for _, l := range append(fewLogs(), randomLogs(5, 200)...) {
		digests := expectedDigests(l)
		for _, count := range countsAround(len(l)) {
			right := -1
			if count >= 0 && count <= len(l) {
				right = digests[count]
			}
			// DigestOf is -1 for the other counts, but this proves nothing.
			for _, digest := range []int{right, right + 1, right - 1, right + 9973, right - 9973, right + 1<<32, -right, -1, 0, math.MinInt, math.MaxInt} {
				want := right >= 0 && digest == right
				if got := impl.ProvesPrefix(l, count, digest); got != want {
					t.Fatalf("ProvesPrefix(%+v, %d, %d) = %v", l, count, digest, got)
				}
			}
		}
	}
}

// A digest proves the prefix with its own count and not another one.
func TestProvesPrefixWithDigestsOfOtherCounts(t *testing.T) {
	for _, l := range [][]impl.Entry{fewLogs()[4], longLog(5), longLog(16), fewLogs()[10], fewLogs()[11]} {
		for i, digest := range impl.DigestList(l) {
			for count := range len(l) + 1 {
				if got := impl.ProvesPrefix(l, count, digest); got != (i == count) {
					t.Errorf("ProvesPrefix(%+v, %d, %d) = %v, but it is the digest of %d entries", l, count, digest, got, i)
				}
			}
		}
	}
}
