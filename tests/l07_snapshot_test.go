package tests

import (
	"fmt"
	"math"
	"math/rand/v2"
	"regexp"
	"slices"
	"strconv"
	"strings"
	"testing"

	"loop.example/g01926/impl"
)

// The tests of this file check promise 4 for chunks, chunks that arrive in any order
// yield the original string, and promise 2 for snapshots: they can be parsed from
// their string format, and no other strings are accepted.

// snapshotFormat matches the formats of valid snapshots and nothing else.
var snapshotFormat = regexp.MustCompile(`\A(?:[0-9]|1[0-6]),(?:0|[1-9][0-9]{0,2}|[1-8][0-9]{3}|9[0-8][0-9]{2}|99[0-6][0-9]|997[0-2]),` + strings.TrimPrefix(machineFormat.String(), `\A`))

// chunkFormat matches the chunks and, because of the checksum and the relation of the
// index, the part and their number, other strings as well.
var chunkFormat = regexp.MustCompile(`(?s)\A(0|[1-9][0-9]?)/([1-9][0-9]?):(.*)#(0|[1-9][0-9]*)\z`)

func copyOfSnapshot(s impl.Snapshot) impl.Snapshot {
	return impl.Snapshot{Count: s.Count, Digest: s.Digest, Machine: copyOfMachine(s.Machine)}
}

// sameSnapshot is independent of the program.
func sameSnapshot(a impl.Snapshot, b impl.Snapshot) bool {
	return a.Count == b.Count && a.Digest == b.Digest && sameMachine(a.Machine, b.Machine)
}

// chunkWith returns the text of a chunk with any numbers and part, and the checksum
// that belongs to them.
func chunkWith(index string, total string, part string) string {
	content := index + "/" + total + ":" + part
	return content + "#" + strconv.Itoa(expectedChecksum(content))
}

// chunkOf returns the chunk of a part.
func chunkOf(index int, total int, part string) string {
	return chunkWith(strconv.Itoa(index), strconv.Itoa(total), part)
}

// expectedChunks is independent of the program. Its size is at least 1.
func expectedChunks(s string, size int) []string {
	parts := []string{s}
	for len(parts[len(parts)-1]) > size {
		last := parts[len(parts)-1]
		parts = append(parts[:len(parts)-1], last[:size], last[size:])
	}
	if len(parts) > 40 {
		return nil
	}
	for i, part := range parts {
		parts[i] = chunkOf(i, len(parts), part)
	}
	return parts
}

// A chunkContent is what a chunk says.
type chunkContent struct {
	index int
	total int
	part  string
}

// expectedParseChunk is independent of the program. A part is empty only if it is
// that of the empty string.
func expectedParseChunk(s string) (chunkContent, bool) {
	p := chunkFormat.FindStringSubmatch(s)
	if p == nil {
		return chunkContent{}, false
	}
	c := chunkContent{number(p[1]), number(p[2]), p[3]}
	if c.index >= c.total || c.total > 40 || c.part == "" && c.total > 1 || chunkOf(c.index, c.total, c.part) != s {
		return chunkContent{}, false
	}
	return c, true
}

// fewStrings returns strings with separators, line ends, characters of several bytes
// and bytes that are no characters.
func fewStrings() []string {
	return []string{
		"", "a", "ab", "abcde", "0", "#", "/", ":", "##", "/:#", "#/:", "0/1:#7", "0/1:a#9916", "1/2:b#9357#", "/////", ":::::", "#####", "a/b:c#7#", "a#5",
		"\x00", "\xff", "\xff\x00\x80", "\n", "a\nb\r\n", "\u00e9\u20ac", "\u20ac", "\xe2\x82", "\xc3\xa9\xa9\xc3", " ", "-1", "+1", "none", ",",
		"2,607,600 0.1+0 1.1+5", "1:0.1 write 0 5;1:1.1 swap 0 5 6", impl.FormatLog(longLog(16)), allBytes(), strings.Repeat("a", 40), strings.Repeat("/:#", 27), strings.Repeat("\x00", 41),
	}
}

// wrongChunks returns strings that are not chunks.
func wrongChunks() []string {
	wrong := []string{
		"", " ", "#", "/", ":", "/:#", "0", "0/1", "0/1:", "0/1:a", "0/1#", "0/1:#", "0/1:a#", "0/1#3561", "/:#5", "none", "\x00", "\xff", strings.Repeat("#", 1000), strings.Repeat("0/1:", 1000), strings.Repeat("0", 100000),
		// No part, although the string is not empty.
		chunkOf(0, 2, ""), chunkOf(1, 2, ""), chunkOf(0, 40, ""), chunkOf(39, 40, ""), chunkOf(1, 3, ""), chunkOf(2, 3, ""),
		// A wrong order of the marks.
		"0:1/a#" + strconv.Itoa(expectedChecksum("0:1/a")), "0#1:a/" + strconv.Itoa(expectedChecksum("0#1:a")), "0/1#a:" + strconv.Itoa(expectedChecksum("0/1#a")), "#0/1:a" + strconv.Itoa(expectedChecksum("0/1:a")),
		// The checksum of less or more than the bytes before #.
		"0/1:a#" + strconv.Itoa(expectedChecksum("a")), "0/1:a#" + strconv.Itoa(expectedChecksum("0/1:a#")), "0/1:a#" + strconv.Itoa(expectedChecksum("")), "0/1:a#" + strconv.Itoa(expectedChecksum("0/1:")), "0/1:a#b#" + strconv.Itoa(expectedChecksum("0/1:a")),
		// The content alone, a missing mark, and two chunks.
		"0/1a#" + strconv.Itoa(expectedChecksum("0/1a")), "01:a#" + strconv.Itoa(expectedChecksum("01:a")), "0/1:a" + strconv.Itoa(expectedChecksum("0/1:a")), "0/1#" + strconv.Itoa(expectedChecksum("0/1")), "0/1#" + strconv.Itoa(expectedChecksum("0/1:")),
		chunkOf(0, 2, "a") + chunkOf(1, 2, "b"), chunkOf(0, 2, "a") + "\n", "\n" + chunkOf(0, 2, "a"), chunkOf(0, 2, "a") + " ", " " + chunkOf(0, 2, "a"), chunkOf(0, 2, "a") + "#", chunkOf(0, 2, "a") + "#5",
	}
	for _, index := range []string{"-1", "-0", "+0", "00", "01", "+1", "001", "2", "3", "10", "39", "40", "41", "99", " 0", "0 ", "", "a", "0x0", "\x00", "\u0660", "4294967296", "18446744073709551616", "-2147483648", strings.Repeat("0", 1000)} {
		wrong = append(wrong, chunkWith(index, "2", "a"))
	}
	for _, total := range []string{"0", "-1", "-2", "+2", "02", "002", "1", "41", "42", "99", "100", "999999999", "4294967298", "18446744073709551618", " 2", "2 ", "", "a", "0x2", "\u0662", "-0", strings.Repeat("0", 1000) + "2"} {
		wrong = append(wrong, chunkWith("1", total, "a"))
	}
	wrong = append(wrong, chunkOf(0, 0, ""), chunkOf(0, 0, "a"), chunkOf(1, 1, ""), chunkOf(1, 1, "a"), chunkOf(0, 41, "a"), chunkOf(40, 41, "a"), chunkOf(40, 40, "a"), chunkOf(0, -1, ""), chunkOf(-1, 0, "a"), chunkOf(-1, 1, ""))
	for _, c := range []string{"0/1:#", "0/1:a#", "1/2:b#", "2/3:e#", "39/40:#5#", "0/1:cks#", "0/1:ckr#"} {
		content := strings.TrimSuffix(c, "#")
		sum := expectedChecksum(content)
		for _, other := range []int{sum + 1, sum - 1, sum + 9949, sum - 9949, -sum - 1, sum + 10000, sum*10 + 1, sum + 1<<32, 9949, 9950} {
			wrong = append(wrong, c+strconv.Itoa(other))
		}
		for _, before := range []string{"0", "00", "+", "-", " ", "\n", "\x00", "0x"} {
			wrong = append(wrong, c+before+strconv.Itoa(sum))
		}
		wrong = append(wrong, c+strconv.Itoa(sum)+" ", c+strconv.Itoa(sum)+"\n", c+strconv.Itoa(sum)+".0", c+strconv.Itoa(sum)+"\x00")
	}
	return wrong
}

// roomyStrings returns a list with spare capacity, and the whole memory.
func roomyStrings(l []string) ([]string, []string) {
	whole := append(slices.Clone(l), "71", "", "73", "", "75", "76")
	return whole[:len(l)], whole
}

// spoilStrings overwrites the memory of a list with its unused capacity.
func spoilStrings(l []string) {
	for i := range l[:cap(l)] {
		l[:cap(l)][i] = "spoilt"
	}
}

func TestSnapshotConstants(t *testing.T) {
	if impl.MaxChunks != 40 {
		t.Error("a constant of chapter 7 has another value")
	}
}

// checkTakeSnapshot takes the snapshots of a log with all counts and others.
func checkTakeSnapshot(t *testing.T, l []impl.Entry) {
	t.Helper()
	digests := expectedDigests(l)
	for _, count := range countsAround(len(l)) {
		want, wanted := impl.Snapshot{}, count >= 0 && count <= len(l)
		if wanted {
			m, _, _ := expectedReplay(l[:count])
			want = impl.Snapshot{Count: count, Digest: digests[count], Machine: m}
		}
		if got, ok := impl.TakeSnapshot(l, count); !sameSnapshot(got, want) || ok != wanted {
			t.Fatalf("TakeSnapshot(%+v, %d) = %+v, %v, want %+v, %v", l, count, got, ok, want, wanted)
		}
	}
}

func TestTakeSnapshotExamples(t *testing.T) {
	const log = "1:0.1 write 0 5;1:1.1 swap 0 5 6;2:0.2 write 2 9"
	for _, c := range []struct {
		log   string
		count int
		want  string
	}{
		{log, 0, "0,11,000"},
		{log, 1, "1,6961,500 0.1+0"},
		{log, 2, "2,607,600 0.1+0 1.1+5"},
		{log, 3, "3,2177,609 0.2+0 1.1+5"},
		{"none", 0, "0,11,000"},
		{"20:2.99 swap 2 9 9", 1, "1,761,000 2.99-0"},
		// The least and the greatest digest.
		{"5:0.76 write 0 7", 1, "1,0,700 0.76+0"},
		{"5:0.76 write 0 6", 1, "1,9972,600 0.76+0"},
		// The last operation changes nothing: it is repeated, or older.
		{"1:0.1 write 0 5;2:0.1 write 0 5", 2, "2," + strconv.Itoa(expectedDigests(parsedLog(t, "1:0.1 write 0 5;2:0.1 write 0 5"))[2]) + ",500 0.1+0"},
		{"1:0.2 write 0 6;1:0.1 write 0 5", 2, "2," + strconv.Itoa(expectedDigests(parsedLog(t, "1:0.2 write 0 6;1:0.1 write 0 5"))[2]) + ",600 0.2+0"},
	} {
		s, ok := impl.TakeSnapshot(parsedLog(t, c.log), c.count)
		if got := impl.SnapshotText(s); got != c.want || !ok {
			t.Errorf("TakeSnapshot of %s with the count %d = %q, %v, want %q", c.log, c.count, got, ok, c.want)
		}
	}
}

func TestTakeSnapshotOfManyLogs(t *testing.T) {
	for _, l := range append(fewLogs(), randomLogs(71, 1000)...) {
		checkTakeSnapshot(t, l)
	}
	for length := range 17 {
		checkTakeSnapshot(t, longLog(length))
	}
}

// The beginning of such a list can be a log; it has no snapshot either.
func TestTakeSnapshotOfOtherLists(t *testing.T) {
	for _, l := range wrongLogs() {
		for _, count := range countsAround(min(len(l), 20)) {
			if got, ok := impl.TakeSnapshot(l, count); !sameSnapshot(got, impl.Snapshot{}) || ok {
				t.Fatalf("TakeSnapshot(%+v, %d) = %+v, %v", l, count, got, ok)
			}
		}
	}
}

// The snapshot after some entries is that of the prefix.
func TestSnapshotsOfEqualPrefixes(t *testing.T) {
	for _, l := range append(fewLogs(), randomLogs(72, 300)...) {
		for count := range len(l) + 1 {
			s, _ := impl.TakeSnapshot(l, count)
			of, ok := impl.TakeSnapshot(slices.Clone(l[:count]), count)
			if !ok || !impl.EqualSnapshots(s, of) || !impl.ProvesPrefix(l, count, s.Digest) || !impl.IsValidMachine(s.Machine) {
				t.Fatalf("TakeSnapshot(%+v, %d) = %+v, but of the prefix %+v", l, count, s, of)
			}
		}
	}
}

func TestTakeSnapshotKeepsItsArgumentAndReturnsNewMemory(t *testing.T) {
	for _, l := range append(fewLogs(), wrongLogs()...) {
		arg, whole := roomyLog(l)
		before := slices.Clone(whole)
		for _, count := range []int{-1, 0, 1, len(l) / 2, len(l), len(l) + 1} {
			first, ok := impl.TakeSnapshot(arg, count)
			want := copyOfSnapshot(first)
			spoilMachine(first.Machine)
			if second, again := impl.TakeSnapshot(arg, count); !sameSnapshot(second, want) || again != ok {
				t.Fatalf("the second TakeSnapshot(%+v, %d) = %+v, want %+v", l, count, second, want)
			}
		}
		if !slices.Equal(whole, before) {
			t.Fatalf("the memory of %+v becomes %+v", l, whole)
		}
	}
}

// checkSnapshotText compares SnapshotText with the text that is wanted, and parses it.
func checkSnapshotText(t *testing.T, s impl.Snapshot, want string) {
	t.Helper()
	if got := impl.SnapshotText(s); got != want {
		t.Fatalf("SnapshotText(%+v) = %q, want %q", s, got, want)
	}
	if want == "" {
		return
	}
	if !snapshotFormat.MatchString(want) {
		t.Fatalf("%q is no format", want)
	}
	if got, ok := impl.ParseSnapshot(want); !sameSnapshot(got, s) || !ok {
		t.Fatalf("ParseSnapshot(%q) = %+v, %v, want %+v, true", want, got, ok, s)
	}
}

func TestSnapshotTextExamples(t *testing.T) {
	m := impl.Machine{Objects: []int{6, 0, 0}, Sessions: []impl.Session{session(0, 1, true, 0), session(1, 1, true, 5)}}
	greatest := impl.Machine{Objects: []int{9, 9, 9}, Sessions: []impl.Session{session(0, 99, true, 9), session(1, 99, true, 9), session(2, 99, true, 9)}}
	for _, c := range []struct {
		s    impl.Snapshot
		want string
	}{
		{impl.Snapshot{Count: 2, Digest: 607, Machine: m}, "2,607,600 0.1+0 1.1+5"},
		{impl.Snapshot{Machine: impl.NewMachine()}, "0,0,000"},
		{impl.Snapshot{Digest: 11, Machine: impl.NewMachine()}, "0,11,000"},
		{impl.Snapshot{Count: 16, Digest: 9972, Machine: greatest}, "16,9972,999 0.99+9 1.99+9 2.99+9"},
		// The count and the digest need not belong to the machine.
		{impl.Snapshot{Count: 0, Digest: 9972, Machine: m}, "0,9972,600 0.1+0 1.1+5"},
		{impl.Snapshot{Count: 16, Machine: impl.Machine{Objects: []int{1, 2, 3}, Sessions: []impl.Session{}}}, "16,0,123"},
		// Not valid.
		{impl.Snapshot{}, ""},
		{impl.Snapshot{Count: 2, Digest: 607}, ""},
		{impl.Snapshot{Count: -1, Digest: 607, Machine: m}, ""},
		{impl.Snapshot{Count: 17, Digest: 607, Machine: m}, ""},
		{impl.Snapshot{Count: 2, Digest: -1, Machine: m}, ""},
		{impl.Snapshot{Count: 2, Digest: 9973, Machine: m}, ""},
		{impl.Snapshot{Count: 17, Digest: 9973, Machine: m}, ""},
	} {
		checkSnapshotText(t, c.s, c.want)
	}
}

func TestSnapshotTextOfAllCountsAndDigests(t *testing.T) {
	for _, m := range fewMachines() {
		text := impl.FormatMachine(m)
		for count := -3; count < 25; count++ {
			for _, digest := range append(farNumbers(), -1, 0, 1, 9, 10, 11, 99, 999, 9948, 9949, 9971, 9972, 9973, 9974, 9999, 10000) {
				want := ""
				if count >= 0 && count <= 16 && digest >= 0 && digest <= 9972 {
					want = fmt.Sprintf("%d,%d,%s", count, digest, text)
				}
				checkSnapshotText(t, impl.Snapshot{Count: count, Digest: digest, Machine: m}, want)
			}
		}
		for digest := -5; digest < 9980; digest++ {
			want := ""
			if digest >= 0 && digest <= 9972 {
				want = fmt.Sprintf("7,%d,%s", digest, text)
			}
			checkSnapshotText(t, impl.Snapshot{Count: 7, Digest: digest, Machine: m}, want)
		}
		for _, count := range farNumbers() {
			checkSnapshotText(t, impl.Snapshot{Count: count, Digest: 11, Machine: m}, "")
		}
	}
}

func TestSnapshotTextOfManyMachines(t *testing.T) {
	for text, m := range sampleMachines() {
		checkSnapshotText(t, impl.Snapshot{Count: 3, Digest: 4000, Machine: m}, "3,4000,"+text)
	}
	for _, m := range wrongMachines() {
		checkSnapshotText(t, impl.Snapshot{Count: 3, Digest: 4000, Machine: m}, "")
	}
}

func TestSnapshotTextOfManySnapshots(t *testing.T) {
	for _, l := range append(fewLogs(), randomLogs(73, 1000)...) {
		for count := range len(l) + 1 {
			s, _ := impl.TakeSnapshot(l, count)
			m, _, _ := expectedReplay(l[:count])
			checkSnapshotText(t, s, fmt.Sprintf("%d,%d,%s", count, expectedDigests(l)[count], impl.FormatMachine(m)))
		}
	}
}

// checkParseSnapshot compares ParseSnapshot with the regular expression, and what it
// accepts with the format.
func checkParseSnapshot(t *testing.T, s string) {
	t.Helper()
	want := snapshotFormat.MatchString(s)
	got, ok := impl.ParseSnapshot(s)
	if ok != want || !ok && !sameSnapshot(got, impl.Snapshot{}) || ok && impl.SnapshotText(got) != s {
		t.Fatalf("ParseSnapshot(%q) = %+v, %v, want %v", s, got, ok, want)
	}
}

func TestParseSnapshotRejects(t *testing.T) {
	for _, s := range []string{
		// Missing and additional parts.
		"", ",", ",,", ",,,", " ", "none", "2", "2,607", "2,607,", "2,,600", ",607,600", ",,600", "600", "607,600", "2,600 0.1+0", "2,607,600,", ",2,607,600", "2,607,600,600", "2,607,600,0", "2,2,607,600", "2,607,607,600", "2,607,600 ", "2,607 600", "2 607,600", "2607,600", "2,607600",
		// Numbers out of range.
		"-1,607,600", "17,607,600", "18,607,600", "99,607,600", "100,607,600", "4294967296,607,600", "4294967298,607,600", "18446744073709551618,607,600", "999999999,607,600",
		"2,-1,600", "2,9973,600", "2,9974,600", "2,9999,600", "2,10000,600", "2,10580,600", "2,4294967903,600", "2,18446744073709552223,600", "2,999999999,600", "2,-607,600",
		// Leading zeros and signs, spaces and other digits.
		"02,607,600", "002,607,600", "+2,607,600", "-2,607,600", "-0,607,600", "00,607,600", "016,607,600", "2,0607,600", "2,00,600", "2,+607,600", "2,-0,600", "2,09972,600",
		" 2,607,600", "2 ,607,600", "2, 607,600", "2,607 ,600", "2,607, 600", "2,607,600\n", "\n2,607,600", "2,\n607,600", "2\t,607,600", "2,607,600\x00", "\x002,607,600", "0x2,607,600", "2,0x9,600", "2,1e3,600", "2,6_7,600", "2.0,607,600", "2,6.7,600",
		"\u0662,607,600", "\uff12,607,600", "2,\u0666,600", "2\uff0c607\uff0c600", "a,607,600", "2,a,600", "\xff,607,600", "2,\xff,600", "2,607,\xff", "2;607;600", "2:607:600", "2/607/600", "\xef\xbb\xbf2,607,600",
		// No machine.
		"2,607,60", "2,607,6000", "2,607,60a", "2,607,-60", "2,607,none", "2,607,600 1.1+5 0.1+0", "2,607,600 0.1+0 0.1+0", "2,607,600 3.1+0", "2,607,600 0.0+0", "2,607,600 0.100+0", "2,607,600 0.1+10", "2,607,600  0.1+0", "2,607,600 0.1+0,1.1+5", "2,607,600,0.1+0", "2,607,6,0,0", "2,607,600 0,1+0",
		strings.Repeat(",", 100000), strings.Repeat("2,607,600", 10000), "2,607,600" + strings.Repeat(",", 100000), strings.Repeat("2", 100000) + ",607,600", "2," + strings.Repeat("6", 100000) + ",600", "2,607," + strings.Repeat("6", 100000), strings.Repeat("0", 100000) + "2,607,600",
	} {
		if got, ok := impl.ParseSnapshot(s); !sameSnapshot(got, impl.Snapshot{}) || ok {
			t.Errorf("ParseSnapshot(%.40q) = %+v, %v, want the zero value and false", s, got, ok)
		}
		if snapshotFormat.MatchString(s) {
			t.Errorf("%.40q is a format", s)
		}
	}
}

func TestParseSnapshotOfStringsBesideFormats(t *testing.T) {
	for _, s := range []string{"0,0,000", "0,11,000", "2,607,600 0.1+0 1.1+5", "9,999,123 2.10-0", "10,1000,123", "16,9972,999 0.99+9 1.99+9 2.99+9", "15,9899,070 2.10-0", "1,9969,500 0.9+0"} {
		if !snapshotFormat.MatchString(s) {
			t.Fatalf("%q is no format", s)
		}
		checkParseSnapshot(t, s)
		for _, beside := range stringsBeside(s) {
			checkParseSnapshot(t, beside)
		}
	}
}

func TestParseSnapshotOfAllShortStrings(t *testing.T) {
	for length := range 4 {
		for _, s := range stringsOver("0129 +-./,:a\x00\xff", length) {
			checkParseSnapshot(t, s)
			checkParseSnapshot(t, s+",607,600")
			checkParseSnapshot(t, "2,"+s+",600 0.1+0")
			checkParseSnapshot(t, "2,607,"+s)
			checkParseSnapshot(t, "2,607"+s+"600")
			checkParseSnapshot(t, "2"+s+"607,600")
		}
	}
	for _, s := range stringsOver("012,", 7) {
		checkParseSnapshot(t, s)
	}
}

func TestParseSnapshotOfAllNumbers(t *testing.T) {
	for n := -5; n < 12000; n++ {
		checkParseSnapshot(t, fmt.Sprintf("%d,607,600", n))
		checkParseSnapshot(t, fmt.Sprintf("%02d,607,600", n))
		checkParseSnapshot(t, fmt.Sprintf("2,%d,600", n))
		checkParseSnapshot(t, fmt.Sprintf("2,%05d,600", n))
	}
}

func TestParseSnapshotOfAllCombinationsOfParts(t *testing.T) {
	numbers := []string{"0", "1", "9", "10", "16", "17", "20", "9972", "9973", "-1", "00", "01", "+1", "", " 1", "1 ", "a", "000"}
	machines := []string{"000", "600 0.1+0", "999 0.99+9 1.99+9 2.99+9", "", "00", "0000", "600 3.1+0", "0", "none", " 000", "000 "}
	for _, first := range numbers {
		for _, second := range numbers {
			for _, m := range machines {
				for _, separator := range []string{",", " ", "", ",,", ";"} {
					checkParseSnapshot(t, first+separator+second+","+m)
					checkParseSnapshot(t, first+","+second+separator+m)
				}
				checkParseSnapshot(t, first+","+second+","+m+","+first)
				checkParseSnapshot(t, m+","+first+","+second)
			}
		}
	}
}

func TestParseSnapshotReturnsNewMemory(t *testing.T) {
	for _, s := range []string{"2,607,600 0.1+0 1.1+5", "0,11,000", "16,9972,999 0.99+9 1.99+9 2.99+9"} {
		first, _ := impl.ParseSnapshot(s)
		want := copyOfSnapshot(first)
		spoilMachine(first.Machine)
		if second, ok := impl.ParseSnapshot(s); !sameSnapshot(second, want) || !ok {
			t.Errorf("the second ParseSnapshot(%q) = %+v, %v", s, second, ok)
		}
	}
}

func checkEncodeChunks(t *testing.T, s string, size int, want []string) {
	t.Helper()
	if got := impl.EncodeChunks(s, size); !slices.Equal(got, want) {
		t.Fatalf("EncodeChunks(%.60q, %d) = %.300q, want %.300q", s, size, got, want)
	}
}

func TestEncodeChunksExamples(t *testing.T) {
	for _, c := range []struct {
		s    string
		size int
		want []string
	}{
		{"", 5, []string{"0/1:#3561"}},
		{"", 1, []string{"0/1:#3561"}},
		{"", math.MaxInt, []string{"0/1:#3561"}},
		{"a", 1, []string{"0/1:a#9916"}},
		{"ab", 1, []string{"0/2:a#6322", "1/2:b#9357"}},
		{"abcd", 2, []string{"0/2:ab#3166", "1/2:cd#7398"}},
		// The last part is shorter.
		{"abcde", 2, []string{"0/3:ab#4765", "1/3:cd#8997", "2/3:e#8800"}},
		{"2,607,600 0.1+0 1.1+5", 10, []string{"0/3:2,607,600 #5974", "1/3:0.1+0 1.1+#8775", "2/3:5#8752"}},
		// The size is at least the length.
		{"a", 2, []string{"0/1:a#9916"}},
		{"a", math.MaxInt, []string{"0/1:a#9916"}},
		// Marks in the part.
		{"a/b:c#7#", 3, []string{"0/3:a/b#7768", "1/3::c##1959", "2/3:7##1340"}},
		{"0/1:#7", 9, []string{"0/1:0/1:#7#6653"}},
		// Characters of several bytes, also cut, line ends, and other bytes.
		{"\u00e9\u20ac", 2, []string{"0/3:\u00e9#175", "1/3:\xe2\x82#1870", "2/3:\xac#8871"}},
		{"\xff\x00\x80", 2, []string{"0/2:\xff\x00#3878", "1/2:\x80#9387"}},
		{"\n", 1, []string{"0/1:\n#9829"}},
		// The least and the greatest checksum.
		{"cks", 3, []string{"0/1:cks#0"}},
		{"ckr", 4, []string{"0/1:ckr#9948"}},
		// Sizes out of range.
		{"", 0, nil}, {"", -1, nil}, {"", math.MinInt, nil}, {"a", 0, nil}, {"a", -1, nil}, {"abcde", -2, nil}, {"abcde", -5, nil}, {"a", math.MinInt, nil}, {strings.Repeat("a", 1000), 0, nil}, {strings.Repeat("a", 1000), -1000, nil},
	} {
		checkEncodeChunks(t, c.s, c.size, c.want)
	}
}

func TestEncodeChunksOfManyStrings(t *testing.T) {
	for _, s := range fewStrings() {
		for size := 1; size <= len(s)+3; size++ {
			checkEncodeChunks(t, s, size, expectedChunks(s, size))
		}
		for _, size := range append(farNumbers(), 0, 1<<61, 1<<62+1, math.MaxInt-len(s), math.MinInt+len(s), -len(s)) {
			if size < 1 {
				checkEncodeChunks(t, s, size, nil)
			} else {
				checkEncodeChunks(t, s, size, expectedChunks(s, size))
			}
		}
	}
}

// The number of parts is the length divided by the size, rounded up.
func TestEncodeChunksOfAllNumbersOfParts(t *testing.T) {
	for _, size := range []int{1, 2, 3, 7, 10, 64} {
		for length := range 42*size + 1 {
			s := strings.Repeat("#", length)
			want := max(1, (length+size-1)/size)
			if want > 40 {
				want = 0
			}
			got := impl.EncodeChunks(s, size)
			if len(got) != want {
				t.Fatalf("EncodeChunks of %d bytes with the size %d yields %d chunks, want %d", length, size, len(got), want)
			}
			if want > 0 && !slices.Equal(got, expectedChunks(s, size)) {
				t.Fatalf("EncodeChunks of %d bytes with the size %d = %q", length, size, got)
			}
		}
	}
}

func TestEncodeChunksOfLongStrings(t *testing.T) {
	s := strings.Repeat(allBytes(), 100)
	for _, size := range []int{1, 639, 640, 641, 25599, 25600, 25601} {
		checkEncodeChunks(t, s, size, expectedChunks(s, size))
	}
	if got := impl.EncodeChunks(s, 640); len(got) != 40 {
		t.Errorf("EncodeChunks of %d bytes with the size 640 yields %d chunks", len(s), len(got))
	}
	if got := impl.EncodeChunks(s, 639); len(got) != 0 {
		t.Errorf("EncodeChunks of %d bytes with the size 639 yields %d chunks", len(s), len(got))
	}
}

func TestEncodeChunksReturnsNewMemory(t *testing.T) {
	for _, s := range fewStrings() {
		first := impl.EncodeChunks(s, 7)
		want := slices.Clone(first)
		spoilStrings(first)
		checkEncodeChunks(t, s, 7, want)
	}
}

// expectedReceive is independent of the program.
func expectedReceive(parts []string, chunk string) ([]string, bool) {
	c, ok := expectedParseChunk(chunk)
	received := slices.Clone(parts)
	if !ok {
		return received, false
	}
	if len(received) == 0 {
		received = make([]string, c.total)
	}
	if len(received) != c.total || received[c.index] != "" {
		return slices.Clone(parts), false
	}
	received[c.index] = chunk
	return received, true
}

// checkReceiveChunk compares ReceiveChunk with expectedReceive, checks that the list
// with its unused capacity stays as it is, and that the answer is in new memory.
func checkReceiveChunk(t *testing.T, parts []string, chunk string) []string {
	t.Helper()
	want, wanted := expectedReceive(parts, chunk)
	arg, whole := roomyStrings(parts)
	before := slices.Clone(whole)
	got, ok := impl.ReceiveChunk(arg, chunk)
	if !slices.Equal(got, want) || ok != wanted {
		t.Fatalf("ReceiveChunk(%.300q, %.60q) = %.300q, %v, want %.300q, %v", parts, chunk, got, ok, want, wanted)
	}
	spoilStrings(got)
	if !slices.Equal(whole, before) {
		t.Fatalf("ReceiveChunk(%.300q, %.60q) changes or shares the memory of the list: %.300q", parts, chunk, whole)
	}
	if again, ok := impl.ReceiveChunk(arg, chunk); !slices.Equal(again, want) || ok != wanted {
		t.Fatalf("the second ReceiveChunk(%.300q, %.60q) = %.300q, %v, want %.300q, %v", parts, chunk, again, ok, want, wanted)
	}
	return want
}

func TestReceiveChunkExamples(t *testing.T) {
	a, b, e := "0/3:ab#4765", "1/3:cd#8997", "2/3:e#8800"
	for _, c := range []struct {
		parts []string
		chunk string
		want  []string
		ok    bool
	}{
		// Without places.
		{nil, a, []string{a, "", ""}, true},
		{nil, b, []string{"", b, ""}, true},
		{nil, e, []string{"", "", e}, true},
		{[]string{}, e, []string{"", "", e}, true},
		{nil, "0/1:#3561", []string{"0/1:#3561"}, true},
		{nil, "0/1:cks#0", []string{"0/1:cks#0"}, true},
		// With places.
		{[]string{"", "", ""}, b, []string{"", b, ""}, true},
		{[]string{a, "", ""}, e, []string{a, "", e}, true},
		{[]string{a, "", e}, b, []string{a, b, e}, true},
		{[]string{""}, "0/1:a#9916", []string{"0/1:a#9916"}, true},
		// The other places can contain anything.
		{[]string{"x", "", "0/1:a#9916"}, b, []string{"x", b, "0/1:a#9916"}, true},
		{[]string{b, "", b}, b, []string{b, b, b}, true},
		// A chunk that arrives twice, and a place with something else.
		{[]string{"", b, ""}, b, []string{"", b, ""}, false},
		{[]string{a, b, e}, e, []string{a, b, e}, false},
		{[]string{"", "x", ""}, b, []string{"", "x", ""}, false},
		{[]string{"", " ", ""}, b, []string{"", " ", ""}, false},
		{[]string{"", "\x00", ""}, b, []string{"", "\x00", ""}, false},
		{[]string{"0/1:#3561"}, "0/1:#3561", []string{"0/1:#3561"}, false},
		{[]string{"0/2:a#6322", ""}, chunkOf(0, 2, "b"), []string{"0/2:a#6322", ""}, false},
		// Another number of places.
		{[]string{""}, a, []string{""}, false},
		{[]string{"", ""}, b, []string{"", ""}, false},
		{[]string{"", "", "", ""}, b, []string{"", "", "", ""}, false},
		{make([]string, 41), b, make([]string, 41), false},
		{[]string{"", ""}, "0/1:a#9916", []string{"", ""}, false},
		{[]string{"x"}, a, []string{"x"}, false},
		// No chunk: other numbers, another part, another checksum.
		{nil, "1/3:ab#4765", nil, false},
		{nil, "0/2:ab#4765", nil, false},
		{nil, "0/3:ac#4765", nil, false},
		{nil, "0/3:ab#4766", nil, false},
		{nil, "0/3:ab#04765", nil, false},
		{nil, "0/3:ab#+4765", nil, false},
		{nil, "", nil, false},
		{[]string{}, "ab", nil, false},
		{[]string{"", "", ""}, "ab", []string{"", "", ""}, false},
		{[]string{a, "", e}, "", []string{a, "", e}, false},
	} {
		if got, ok := impl.ReceiveChunk(c.parts, c.chunk); !slices.Equal(got, c.want) || ok != c.ok {
			t.Errorf("ReceiveChunk(%q, %q) = %q, %v, want %q, %v", c.parts, c.chunk, got, ok, c.want, c.ok)
		}
		checkReceiveChunk(t, c.parts, c.chunk)
	}
}

func TestReceiveChunkAcceptsAllChunks(t *testing.T) {
	for _, s := range fewStrings() {
		for size := 1; size <= len(s)+1; size++ {
			chunks := impl.EncodeChunks(s, size)
			for i, chunk := range chunks {
				if c, ok := expectedParseChunk(chunk); !ok || c.index != i || c.total != len(chunks) {
					t.Fatalf("%q is not chunk %d of %d", chunk, i, len(chunks))
				}
				want := make([]string, len(chunks))
				want[i] = chunk
				for _, parts := range [][]string{nil, {}, make([]string, len(chunks))} {
					if got, ok := impl.ReceiveChunk(parts, chunk); !slices.Equal(got, want) || !ok {
						t.Fatalf("ReceiveChunk(%q, %q) = %q, %v", parts, chunk, got, ok)
					}
				}
			}
		}
	}
}

func TestReceiveChunkWithAllNumbers(t *testing.T) {
	for index := -3; index < 45; index++ {
		for total := -3; total < 105; total++ {
			for _, part := range []string{"", "a", "#/:"} {
				chunk := chunkOf(index, total, part)
				checkReceiveChunk(t, nil, chunk)
				if total > 0 {
					checkReceiveChunk(t, make([]string, total), chunk)
				}
				checkReceiveChunk(t, []string{"", ""}, chunk)
			}
		}
	}
}

func TestReceiveChunkRejects(t *testing.T) {
	for _, chunk := range wrongChunks() {
		if _, ok := expectedParseChunk(chunk); ok {
			t.Fatalf("%q is a chunk", chunk)
		}
		for _, parts := range [][]string{nil, {""}, {"", ""}, {"", "", ""}, make([]string, 40), make([]string, 41), {"x", ""}, {"", "x"}} {
			if got, ok := impl.ReceiveChunk(parts, chunk); !slices.Equal(got, parts) || ok {
				t.Fatalf("ReceiveChunk(%q, %.60q) = %q, %v", parts, chunk, got, ok)
			}
		}
	}
}

// The checksum of all these strings is right. Whatever is received is one of the
// chunks of a string, of that in which the part is repeated.
func TestReceiveChunkOfAllShortContents(t *testing.T) {
	accepted := 0
	for length := range 8 {
		for _, content := range stringsOver("012/:#", length) {
			chunk := content + "#" + strconv.Itoa(impl.Checksum(content))
			parts, ok := impl.ReceiveChunk(nil, chunk)
			c, isChunk := expectedParseChunk(chunk)
			if ok != isChunk || !ok && len(parts) > 0 {
				t.Fatalf("ReceiveChunk(nil, %q) = %q, %v, want %v", chunk, parts, ok, isChunk)
			}
			if !ok {
				continue
			}
			accepted++
			all := impl.EncodeChunks(strings.Repeat(c.part, c.total), max(1, len(c.part)))
			if len(all) != c.total || all[c.index] != chunk {
				t.Fatalf("%q is not among the chunks %q", chunk, all)
			}
		}
	}
	// Up to three bytes follow 0/1:, 0/2: and 1/2:, and one or two an index with one digit
	// and one of the numbers 10, 11, 12, 20, 21 and 22. Each of these has 0 to 5 others
	// of them as indices with two digits, which one byte follows.
	if want := 1 + 3*(6+36+216) + 6*3*(6+36) + (0+1+2+3+4+5)*6; accepted != want {
		t.Errorf("%d chunks are accepted, want %d", accepted, want)
	}
}

func TestReceiveChunkOfStringsBesideChunks(t *testing.T) {
	for _, chunk := range []string{"0/1:#3561", "0/2:a#6322", "1/2:b#9357", "2/3:e#8800", "1/3::c##1959", "0/1:cks#0", "0/1:ckr#9948", "0/2:\xff\x00#3878", chunkOf(39, 40, "x"), chunkOf(10, 40, "1/2")} {
		c, ok := expectedParseChunk(chunk)
		if !ok {
			t.Fatalf("%q is no chunk", chunk)
		}
		for _, beside := range stringsBeside(chunk) {
			checkReceiveChunk(t, nil, beside)
			checkReceiveChunk(t, make([]string, c.total), beside)
		}
	}
}

// Each chunk arrives in lists in which any of the places are taken.
func TestReceiveChunkWithAllPlaces(t *testing.T) {
	for total := 1; total <= 6; total++ {
		s := strings.Repeat("/", total)
		chunks := expectedChunks(s, 1)
		for taken := range 1 << total {
			parts := make([]string, total)
			for i := range parts {
				if taken>>i&1 == 1 {
					parts[i] = chunks[i]
				}
			}
			for i, chunk := range chunks {
				received := checkReceiveChunk(t, parts, chunk)
				if received[i] != chunk {
					t.Fatalf("the chunk %q is missing in %q", chunk, received)
				}
			}
		}
	}
}

// receiveAll receives chunks in the given order and returns the places.
func receiveAll(t *testing.T, chunks []string, order []int) []string {
	t.Helper()
	var parts []string
	for _, i := range order {
		next, ok := impl.ReceiveChunk(parts, chunks[i])
		if !ok {
			t.Fatalf("ReceiveChunk(%q, %q) returns false", parts, chunks[i])
		}
		if again, ok := impl.ReceiveChunk(next, chunks[i]); !slices.Equal(again, next) || ok {
			t.Fatalf("ReceiveChunk(%q, %q) = %q, %v, the chunk arrives twice", next, chunks[i], again, ok)
		}
		parts = next
	}
	return parts
}

func checkJoined(t *testing.T, parts []string, total int, want string) {
	t.Helper()
	if got, ok := impl.JoinChunks(parts, total); got != want || !ok {
		t.Fatalf("JoinChunks(%.300q, %d) = %.60q, %v, want %.60q, true", parts, total, got, ok, want)
	}
	if got := impl.MissingChunk(parts, total); got != -1 {
		t.Fatalf("MissingChunk(%.300q, %d) = %d, want -1", parts, total, got)
	}
}

// orders returns all orders of the numbers below n.
func orders(n int) [][]int {
	if n == 0 {
		return [][]int{nil}
	}
	var all [][]int
	for _, order := range orders(n - 1) {
		for i := range n {
			all = append(all, slices.Insert(slices.Clone(order), i, n-1))
		}
	}
	return all
}

func TestChunksInAllOrdersYieldTheString(t *testing.T) {
	for _, s := range []string{"", "a", "#", "/:", "0/2:a#6322", "abcde", "\x00\xff\x80", "\u20ac\u00e9", "2,607,600 0.1+0 1.1+5", "#/#:#"} {
		for size := 1; size <= len(s)+1; size++ {
			chunks := impl.EncodeChunks(s, size)
			if len(chunks) > 6 {
				continue
			}
			for _, order := range orders(len(chunks)) {
				checkJoined(t, receiveAll(t, chunks, order), len(chunks), s)
			}
		}
	}
}

// The missing chunks are asked for one after another in some of the runs.
func TestChunksInRandomOrdersYieldTheString(t *testing.T) {
	random := rand.New(rand.NewPCG(7, 1))
	samples := fewStrings()
	for range 300 {
		b := make([]byte, random.IntN(200))
		for i := range b {
			b[i] = "/:#0a\x00\xff\n"[random.IntN(8)]
		}
		samples = append(samples, string(b))
	}
	for _, s := range samples {
		for _, size := range []int{1, 2, 1 + len(s)/40, 1 + len(s)/7, 1 + len(s)} {
			chunks := impl.EncodeChunks(s, size)
			if len(chunks) == 0 {
				continue
			}
			checkJoined(t, receiveAll(t, chunks, random.Perm(len(chunks))), len(chunks), s)
			var parts []string
			for {
				missing := impl.MissingChunk(parts, len(chunks))
				if missing < 0 {
					break
				}
				parts = checkReceiveChunk(t, parts, chunks[missing])
			}
			checkJoined(t, parts, len(chunks), s)
		}
	}
}

func TestSnapshotsArriveInChunks(t *testing.T) {
	random := rand.New(rand.NewPCG(7, 2))
	for _, l := range append(fewLogs(), randomLogs(74, 200)...) {
		for count := range len(l) + 1 {
			s, _ := impl.TakeSnapshot(l, count)
			chunks := impl.EncodeChunks(impl.SnapshotText(s), 1+random.IntN(12))
			text, ok := impl.JoinChunks(receiveAll(t, chunks, random.Perm(len(chunks))), len(chunks))
			if got, parsed := impl.ParseSnapshot(text); !ok || !parsed || !impl.EqualSnapshots(got, s) {
				t.Fatalf("the snapshot %+v arrives as %+v", s, got)
			}
		}
	}
}

func checkMissingChunk(t *testing.T, parts []string, total int, want int) {
	t.Helper()
	if got := impl.MissingChunk(parts, total); got != want {
		t.Errorf("MissingChunk(%q, %d) = %d, want %d", parts, total, got, want)
	}
}

func TestMissingChunkOfTheEmptyList(t *testing.T) {
	for _, total := range append(farNumbers(), 0, 1, 2, 39, 40, 41) {
		want := -1
		if total > 0 {
			want = 0
		}
		checkMissingChunk(t, nil, total, want)
		checkMissingChunk(t, []string{}, total, want)
	}
}

// The total counts only for the empty list.
func TestMissingChunk(t *testing.T) {
	for _, c := range []struct {
		parts []string
		want  int
	}{
		// Gaps at the beginning, in the middle and at the end.
		{[]string{""}, 0}, {[]string{"", "b", "c"}, 0}, {[]string{"a", "", "c"}, 1}, {[]string{"a", "b", ""}, 2}, {[]string{"", "", ""}, 0}, {[]string{"", "b", ""}, 0}, {[]string{"a", "", ""}, 1}, {[]string{"", "", "c"}, 0},
		// Full lists, also of strings that are no chunks.
		{[]string{"a"}, -1}, {[]string{"a", "b", "c"}, -1}, {[]string{" "}, -1}, {[]string{"\x00", "0"}, -1}, {[]string{"0/1:#3561"}, -1}, {expectedChunks("abcde", 2), -1},
		{[]string{"x", "x", "", "x"}, 2},
	} {
		for _, total := range append(farNumbers(), 0, 1, 2, len(c.parts), len(c.parts)+1, 40, 41) {
			checkMissingChunk(t, c.parts, total, c.want)
		}
	}
}

func TestMissingChunkOfListsOfAllLengths(t *testing.T) {
	for length := 1; length < 60; length++ {
		full := slices.Repeat([]string{"x"}, length)
		checkMissingChunk(t, full, length, -1)
		checkMissingChunk(t, make([]string, length), length, 0)
		for i := range full {
			gap := slices.Clone(full)
			gap[i] = ""
			checkMissingChunk(t, gap, length, i)
			gap[length-1] = ""
			checkMissingChunk(t, gap, length, i)
		}
	}
}

func checkNotJoined(t *testing.T, parts []string, total int) {
	t.Helper()
	if got, ok := impl.JoinChunks(parts, total); got != "" || ok {
		t.Fatalf("JoinChunks(%.300q, %d) = %.60q, %v, want the empty string and false", parts, total, got, ok)
	}
}

func TestJoinChunks(t *testing.T) {
	for _, s := range fewStrings() {
		for size := 1; size <= len(s)+1; size++ {
			chunks := expectedChunks(s, size)
			if chunks == nil {
				continue
			}
			checkJoined(t, chunks, len(chunks), s)
			for _, total := range append(farNumbers(), 0, len(chunks)-1, len(chunks)+1, -len(chunks)) {
				if total != len(chunks) {
					checkNotJoined(t, chunks, total)
				}
			}
		}
	}
}

// A part is empty only if it is the only one.
func TestJoinChunksOfTheEmptyString(t *testing.T) {
	checkJoined(t, []string{"0/1:#3561"}, 1, "")
	checkNotJoined(t, []string{chunkOf(0, 2, ""), chunkOf(1, 2, "")}, 2)
	checkNotJoined(t, []string{chunkOf(0, 2, "a"), chunkOf(1, 2, "")}, 2)
	checkNotJoined(t, []string{chunkOf(0, 2, ""), chunkOf(1, 2, "b")}, 2)
	for _, total := range append(farNumbers(), 0, 1, 2, 40) {
		checkNotJoined(t, nil, total)
		checkNotJoined(t, []string{}, total)
	}
}

func TestJoinChunksRejectsChangedLists(t *testing.T) {
	for _, s := range []string{"a", "ab", "abcde", "#/:#/:#", "\x00\xff\x80\x00", strings.Repeat("a", 40)} {
		for size := 1; size <= len(s); size++ {
			chunks := expectedChunks(s, size)
			total := len(chunks)
			for i := range chunks {
				// A place that is empty, or contains no chunk.
				for _, other := range append(wrongChunks()[:40], "", " ", "x", s, chunks[i]+" ", chunks[i][1:], chunks[i]+chunks[i], strings.Replace(chunks[i], "#", "#0", 1)) {
					changed := slices.Clone(chunks)
					changed[i] = other
					checkNotJoined(t, changed, total)
				}
				// The chunks of two places, or one of them twice.
				for j := range i {
					changed := slices.Clone(chunks)
					changed[i], changed[j] = chunks[j], chunks[i]
					checkNotJoined(t, changed, total)
					changed[j] = chunks[j]
					checkNotJoined(t, changed, total)
				}
				// A chunk that is missing or additional.
				checkNotJoined(t, slices.Delete(slices.Clone(chunks), i, i+1), total)
				checkNotJoined(t, slices.Delete(slices.Clone(chunks), i, i+1), total-1)
				checkNotJoined(t, slices.Insert(slices.Clone(chunks), i, chunks[i]), total)
				checkNotJoined(t, slices.Insert(slices.Clone(chunks), i, chunks[i]), total+1)
				checkNotJoined(t, slices.Insert(slices.Clone(chunks), i, ""), total+1)
			}
			for length := range total {
				checkNotJoined(t, chunks[:length], total)
				checkNotJoined(t, chunks[:length], length)
			}
		}
	}
	checkNotJoined(t, []string{chunkOf(0, 41, "a")}, 1)
	long := make([]string, 41)
	for i := range long {
		long[i] = chunkOf(i, 41, "a")
	}
	checkNotJoined(t, long, 41)
	checkNotJoined(t, long[:40], 40)
	checkNotJoined(t, make([]string, 1000), 1000)
	for _, chunk := range wrongChunks() {
		checkNotJoined(t, []string{chunk}, 1)
		checkNotJoined(t, []string{chunkOf(0, 2, "a"), chunk}, 2)
		checkNotJoined(t, []string{chunk, chunkOf(1, 2, "a")}, 2)
	}
}

// A chunk of another string is joined if its index and the number of parts fit,
// because a chunk says nothing more about the string.
func TestJoinChunksOfSeveralStrings(t *testing.T) {
	first, second, third := expectedChunks("abcde", 2), expectedChunks("uvwxyz", 2), expectedChunks("abcd", 2)
	checkJoined(t, []string{first[0], second[1], first[2]}, 3, "abwxe")
	checkJoined(t, []string{second[0], first[1], second[2]}, 3, "uvcdyz")
	checkJoined(t, []string{first[0], chunkOf(1, 3, "longer"), first[2]}, 3, "ablongere")
	checkJoined(t, []string{chunkOf(0, 3, "x"), first[1], chunkOf(2, 3, "#5")}, 3, "xcd#5")
	checkNotJoined(t, []string{third[0], first[1], first[2]}, 3)
	checkNotJoined(t, []string{first[0], third[1], first[2]}, 3)
	checkNotJoined(t, []string{third[0], first[1]}, 2)
	checkNotJoined(t, []string{first[0], third[1]}, 2)
	checkNotJoined(t, []string{first[0], second[0], first[2]}, 3)
	checkNotJoined(t, []string{first[0], first[1], second[1]}, 3)
	checkNotJoined(t, []string{first[0], "0/1:a#9916", first[2]}, 3)
}

func TestChunkFunctionsKeepTheirArguments(t *testing.T) {
	lists := [][]string{nil, {}, {""}, {"x"}, {"", "x", ""}, make([]string, 41), wrongChunks()}
	for _, s := range fewStrings() {
		lists = append(lists, expectedChunks(s, 7))
	}
	for _, l := range lists {
		arg, whole := roomyStrings(l)
		before := slices.Clone(whole)
		for _, total := range []int{-1, 0, 1, len(l), len(l) + 1} {
			impl.MissingChunk(arg, total)
			impl.JoinChunks(arg, total)
		}
		for _, chunk := range append(slices.Clone(l), "", "x", "0/1:a#9916", chunkOf(1, 3, "a"), chunkOf(len(l)-1, len(l), "b")) {
			impl.ReceiveChunk(arg, chunk)
		}
		if !slices.Equal(whole, before) {
			t.Fatalf("the memory of %q becomes %q", l, whole)
		}
	}
}

func checkEqualSnapshots(t *testing.T, a impl.Snapshot, b impl.Snapshot, want bool) {
	t.Helper()
	if got := impl.EqualSnapshots(a, b); got != want {
		t.Errorf("EqualSnapshots(%+v, %+v) = %v", a, b, got)
	}
	if got := impl.EqualSnapshots(b, a); got != want {
		t.Errorf("EqualSnapshots(%+v, %+v) = %v", b, a, got)
	}
}

// changedSnapshots returns snapshots that differ from s in one field, also inside the
// machine.
func changedSnapshots(s impl.Snapshot) []impl.Snapshot {
	var all []impl.Snapshot
	change := func(field func(*impl.Snapshot)) {
		changed := copyOfSnapshot(s)
		field(&changed)
		all = append(all, changed)
	}
	change(func(c *impl.Snapshot) { c.Count++ })
	change(func(c *impl.Snapshot) { c.Count = ^c.Count })
	change(func(c *impl.Snapshot) { c.Count += 1 << 32 })
	change(func(c *impl.Snapshot) { c.Digest++ })
	change(func(c *impl.Snapshot) { c.Digest = ^c.Digest })
	change(func(c *impl.Snapshot) { c.Digest += 9973 })
	change(func(c *impl.Snapshot) { c.Machine.Objects = append(c.Machine.Objects, 0) })
	change(func(c *impl.Snapshot) { c.Machine.Sessions = append(c.Machine.Sessions, impl.Session{}) })
	for i := range s.Machine.Objects {
		change(func(c *impl.Snapshot) { c.Machine.Objects[i]++ })
		change(func(c *impl.Snapshot) { c.Machine.Objects = slices.Delete(c.Machine.Objects, i, i+1) })
	}
	for i := range s.Machine.Sessions {
		change(func(c *impl.Snapshot) { c.Machine.Sessions[i].Client++ })
		change(func(c *impl.Snapshot) { c.Machine.Sessions[i].Seq++ })
		change(func(c *impl.Snapshot) { c.Machine.Sessions[i].Result.Done = !c.Machine.Sessions[i].Result.Done })
		change(func(c *impl.Snapshot) { c.Machine.Sessions[i].Result.Value-- })
		change(func(c *impl.Snapshot) { c.Machine.Sessions = slices.Delete(c.Machine.Sessions, i, i+1) })
	}
	return all
}

func TestEqualSnapshots(t *testing.T) {
	snapshots := []impl.Snapshot{{}, {Count: -1, Digest: math.MinInt}, {Count: math.MaxInt, Digest: 9973}}
	for _, m := range append(fewMachines(), wrongMachines()[:40]...) {
		snapshots = append(snapshots, impl.Snapshot{Count: 2, Digest: 607, Machine: m}, impl.Snapshot{Count: 17, Digest: -1, Machine: m})
	}
	for _, s := range snapshots {
		checkEqualSnapshots(t, s, copyOfSnapshot(s), true)
		for _, changed := range changedSnapshots(s) {
			checkEqualSnapshots(t, s, changed, false)
		}
	}
	// The fields are compared each with its counterpart.
	checkEqualSnapshots(t, impl.Snapshot{Count: 1, Digest: 2}, impl.Snapshot{Count: 2, Digest: 1}, false)
}

func TestEqualSnapshotsTreatsNilAsEmpty(t *testing.T) {
	checkEqualSnapshots(t, impl.Snapshot{}, impl.Snapshot{Machine: impl.Machine{Objects: []int{}, Sessions: []impl.Session{}}}, true)
	checkEqualSnapshots(t, impl.Snapshot{Count: 1, Digest: 5, Machine: impl.Machine{Objects: []int{1, 2, 3}}}, impl.Snapshot{Count: 1, Digest: 5, Machine: impl.Machine{Objects: []int{1, 2, 3}, Sessions: []impl.Session{}}}, true)
}

func TestSnapshotFunctionsKeepTheirArguments(t *testing.T) {
	for _, m := range append(fewMachines(), wrongMachines()...) {
		arg, whole := roomyMachine(m)
		before := copyOfMachine(whole)
		s := impl.Snapshot{Count: 2, Digest: 607, Machine: arg}
		impl.SnapshotText(s)
		impl.EqualSnapshots(s, s)
		impl.EqualSnapshots(s, impl.Snapshot{})
		if !sameMachine(whole, before) {
			t.Fatalf("the memory of %+v becomes %+v", m, whole)
		}
	}
}
