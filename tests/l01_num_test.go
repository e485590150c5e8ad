package tests

import (
	"math"
	"strings"
	"testing"

	"loop.example/g01926/impl"
)

// The tests of this file check promise 1 for the functions of chapter 1: each
// decoder is the inverse of its encoder and accepts nothing else.

// stringsOver returns all strings of exactly length bytes of the alphabet.
func stringsOver(alphabet string, length int) []string {
	all := []string{""}
	for range length {
		var longer []string
		for _, s := range all {
			for i := range len(alphabet) {
				longer = append(longer, s+alphabet[i:i+1])
			}
		}
		all = longer
	}
	return all
}

func allBytes() string {
	b := make([]byte, 256)
	for i := range b {
		b[i] = byte(i)
	}
	return string(b)
}

// numbersNearPowers returns numbers at both sides of every power of two.
func numbersNearPowers() []int {
	list := []int{0, 300, 258, impl.MaxVarint - 1, impl.MaxVarint, impl.MaxVarint + 1, math.MaxInt, math.MinInt}
	for shift := range 63 {
		power := 1 << shift
		list = append(list, power-1, power, power+1, -power)
	}
	return list
}

func TestEncodeFixedExamples(t *testing.T) {
	for _, c := range []struct {
		n, width int
		want     string
	}{
		{258, 2, "\x01\x02"},
		{0, 1, "\x00"},
		{255, 1, "\xff"},
		{7, 3, "\x00\x00\x07"},
		{65535, 2, "\xff\xff"},
		{0, 7, "\x00\x00\x00\x00\x00\x00\x00"},
		{0x01020304050607, 7, "\x01\x02\x03\x04\x05\x06\x07"},
		{1<<56 - 1, 7, "\xff\xff\xff\xff\xff\xff\xff"},
		{256, 1, ""},
		{65536, 2, ""},
		{1 << 56, 7, ""},
		{math.MaxInt, 7, ""},
		{-1, 1, ""},
		{-1, 7, ""},
		{math.MinInt, 7, ""},
		{0, 0, ""},
		{0, 8, ""},
		{1, 9, ""},
		{0, -1, ""},
		{0, math.MaxInt, ""},
		{0, math.MinInt, ""},
	} {
		if got := impl.EncodeFixed(c.n, c.width); got != c.want {
			t.Errorf("EncodeFixed(%d, %d) = %q, want %q", c.n, c.width, got, c.want)
		}
	}
}

func TestDecodeFixedExamples(t *testing.T) {
	for _, c := range []struct {
		s     string
		width int
		want  int
		ok    bool
	}{
		{"\x01\x02", 2, 258, true},
		{"\x01\x02\x03", 2, 258, true},
		{"\x00", 1, 0, true},
		{"\xff", 1, 255, true},
		{"\x00\x00\x00\x00\x00\x00\x00", 7, 0, true},
		{"\xff\xff\xff\xff\xff\xff\xff", 7, 1<<56 - 1, true},
		{"\x01\x02\x03\x04\x05\x06\x07\x08", 7, 0x01020304050607, true},
		{"", 1, 0, false},
		{"\x01", 2, 0, false},
		{"\xff\xff\xff\xff\xff\xff", 7, 0, false},
		{"", 0, 0, false},
		{"\x01", 0, 0, false},
		{"\x01\x01\x01\x01\x01\x01\x01\x01\x01", 8, 0, false},
		{"\x01", -1, 0, false},
		{"\x01", math.MaxInt, 0, false},
		{"\x01", math.MinInt, 0, false},
	} {
		n, ok := impl.DecodeFixed(c.s, c.width)
		if n != c.want || ok != c.ok {
			t.Errorf("DecodeFixed(%q, %d) = %d, %v, want %d, %v", c.s, c.width, n, ok, c.want, c.ok)
		}
	}
}

func TestFixedIsInverse(t *testing.T) {
	for width := 1; width <= 7; width++ {
		for _, n := range numbersNearPowers() {
			s := impl.EncodeFixed(n, width)
			if fits := n >= 0 && n < 1<<(8*width); !fits {
				if s != "" {
					t.Errorf("EncodeFixed(%d, %d) = %q, but the number does not fit", n, width, s)
				}
				continue
			}
			if got, ok := impl.DecodeFixed(s, width); len(s) != width || got != n || !ok {
				t.Errorf("width %d: %d is encoded as %q and decoded as %d, %v", width, n, s, got, ok)
			}
		}
	}
	for _, s := range stringsOver(allBytes(), 2) {
		n, ok := impl.DecodeFixed(s, 2)
		if !ok || impl.EncodeFixed(n, 2) != s {
			t.Fatalf("%q is decoded as %d, %v, which is encoded as %q", s, n, ok, impl.EncodeFixed(n, 2))
		}
	}
}

func TestEncodeVarintExamples(t *testing.T) {
	for _, c := range []struct {
		n    int
		want string
	}{
		{0, "\x00"},
		{1, "\x01"},
		{127, "\x7f"},
		{128, "\x80\x01"},
		{300, "\xac\x02"},
		{16383, "\xff\x7f"},
		{16384, "\x80\x80\x01"},
		{1 << 42, "\x80\x80\x80\x80\x80\x80\x01"},
		{impl.MaxVarint, "\xff\xff\xff\xff\xff\xff\x7f"},
		{impl.MaxVarint + 1, ""},
		{math.MaxInt, ""},
		{-1, ""},
		{math.MinInt, ""},
	} {
		if got := impl.EncodeVarint(c.n); got != c.want {
			t.Errorf("EncodeVarint(%d) = %q, want %q", c.n, got, c.want)
		}
	}
}

func TestDecodeVarintExamples(t *testing.T) {
	for _, c := range []struct {
		s         string
		n, length int
	}{
		{"\x00", 0, 1},
		{"\x00\x80", 0, 1},
		{"\x7f", 127, 1},
		{"\x80\x01", 128, 2},
		{"\xac\x02", 300, 2},
		{"\xac\x02\xac\x02", 300, 2},
		{"\x80\x80\x80\x80\x80\x80\x01", 1 << 42, 7},
		{"\xff\xff\xff\xff\xff\xff\x7f", impl.MaxVarint, 7},
		{"\xff\xff\xff\xff\xff\xff\x7f\xff", impl.MaxVarint, 7},
		{"", 0, 0},
		{"\x80", 0, 0},
		{"\xff\xff\xff\xff\xff\xff", 0, 0},
		{"\xff\xff\xff\xff\xff\xff\xff", 0, 0},
		{"\x80\x80\x80\x80\x80\x80\x80\x01", 0, 0},
		{"\xff\xff\xff\xff\xff\xff\xff\xff\x7f", 0, 0},
		{"\xff\xff\xff\xff\xff\xff\xff\xff\xff\x01", 0, 0},
	} {
		n, length := impl.DecodeVarint(c.s)
		if n != c.n || length != c.length {
			t.Errorf("DecodeVarint(%q) = %d, %d, want %d, %d", c.s, n, length, c.n, c.length)
		}
	}
}

func TestDecodeVarintRejectsUnnecessaryBytes(t *testing.T) {
	for _, short := range []string{"\x00", "\x01", "\x7f", "\xac\x02", "\xff\xff\xff\xff\xff\x7f"} {
		last := len(short) - 1
		long := short[:last] + string([]byte{short[last] | 128})
		for len(long) <= 9 {
			if n, length := impl.DecodeVarint(long + "\x00"); n != 0 || length != 0 {
				t.Errorf("DecodeVarint(%q) = %d, %d, want 0, 0", long+"\x00", n, length)
			}
			long += "\x80"
		}
	}
}

func TestVarintIsInverse(t *testing.T) {
	for _, n := range numbersNearPowers() {
		s := impl.EncodeVarint(n)
		if n < 0 || n > impl.MaxVarint {
			if s != "" {
				t.Errorf("EncodeVarint(%d) = %q, but the number is out of range", n, s)
			}
			continue
		}
		for _, rest := range []string{"", "\x00", "\x80", "z"} {
			if got, length := impl.DecodeVarint(s + rest); got != n || length != len(s) {
				t.Errorf("%d is encoded as %q and decoded, before %q, as %d, %d", n, s, rest, got, length)
			}
		}
	}
}

func TestDecodeVarintAcceptsNothingElse(t *testing.T) {
	numbers := map[string]int{}
	for n := range 1 << 14 {
		numbers[impl.EncodeVarint(n)] = n
	}
	if len(numbers) != 1<<14 {
		t.Fatal("different numbers have the same varint")
	}
	for _, s := range stringsOver(allBytes(), 2) {
		want, length := 0, 0
		for cut := 1; cut <= 2; cut++ {
			if n, ok := numbers[s[:cut]]; ok {
				want, length = n, cut
			}
		}
		if n, got := impl.DecodeVarint(s); n != want || got != length {
			t.Fatalf("DecodeVarint(%q) = %d, %d, want %d, %d", s, n, got, want, length)
		}
	}
}

func TestEncodeHexExamples(t *testing.T) {
	for _, c := range []struct{ s, want string }{
		{"", ""},
		{"a", "61"},
		{"a\xff", "61ff"},
		{"\x00\x01\x10", "000110"},
		{"\xab\xcd\xef", "abcdef"},
		{"\u00e9", "c3a9"},
		{"\xff\xfe\xed", "fffeed"},
	} {
		if got := impl.EncodeHex(c.s); got != c.want {
			t.Errorf("EncodeHex(%q) = %q, want %q", c.s, got, c.want)
		}
		if got, ok := impl.DecodeHex(c.want); got != c.s || !ok {
			t.Errorf("DecodeHex(%q) = %q, %v, want %q, true", c.want, got, ok, c.s)
		}
	}
}

func TestDecodeHexRejects(t *testing.T) {
	for _, s := range []string{
		"6", "61f", "6F", "F6", "AB", "0x", "x0", "g0", "0g", "/0", "0/", ":0", "`0", "-1", "+1",
		" 61", "61 ", "6 1", "61\n", "6\x00", "\x006", "61zz", "zz61", "616",
		"\u00e9", "\xff\xff", "6\xff", "\xff6", "\u0131\u0131", "6\u0161f", "\u0661\u0661", "\U00010061",
		"\ufffd6", "\uff16\uff11",
	} {
		if got, ok := impl.DecodeHex(s); got != "" || ok {
			t.Errorf("DecodeHex(%q) = %q, %v, want \"\", false", s, got, ok)
		}
	}
}

func TestHexIsInverse(t *testing.T) {
	long := strings.Repeat(allBytes(), 3)
	if got, ok := impl.DecodeHex(impl.EncodeHex(long)); got != long || !ok {
		t.Errorf("%q, %v instead of all bytes three times", got, ok)
	}
	origin := map[string]string{}
	for _, s := range stringsOver(allBytes(), 1) {
		origin[impl.EncodeHex(s)] = s
	}
	if len(origin) != 256 {
		t.Fatal("different bytes have the same digits")
	}
	for _, s := range stringsOver(allBytes(), 2) {
		want, wanted := origin[s]
		if got, ok := impl.DecodeHex(s); got != want || ok != wanted {
			t.Fatalf("DecodeHex(%q) = %q, %v, want %q, %v", s, got, ok, want, wanted)
		}
	}
}

func TestFormatIntExamples(t *testing.T) {
	for _, c := range []struct {
		n    int
		want string
	}{
		{0, "0"},
		{7, "7"},
		{-7, "-7"},
		{10, "10"},
		{-120, "-120"},
		{999999999, "999999999"},
		{1000000000, "1000000000"},
		{math.MaxInt, "9223372036854775807"},
		{math.MinInt, "-9223372036854775808"},
	} {
		if got := impl.FormatInt(c.n); got != c.want {
			t.Errorf("FormatInt(%d) = %q, want %q", c.n, got, c.want)
		}
	}
}

func TestParseIntExamples(t *testing.T) {
	for _, c := range []struct {
		s    string
		want int
	}{
		{"0", 0},
		{"7", 7},
		{"-7", -7},
		{"-120", -120},
		{"99999999", 99999999},
		{"100000000", 100000000},
		{"123456789", 123456789},
		{"999999999", 999999999},
		{"-100000000", -100000000},
		{"-999999999", -999999999},
	} {
		if n, ok := impl.ParseInt(c.s); n != c.want || !ok {
			t.Errorf("ParseInt(%q) = %d, %v, want %d, true", c.s, n, ok, c.want)
		}
	}
}

func TestParseIntRejects(t *testing.T) {
	for _, s := range []string{
		"", "-", "--", "--7", "-0", "00", "07", "-07", "000000000", "+1", "+", "-+1", "7-", "1-2",
		" 1", "1 ", "1\n", "1_0", "0x1", "1e3", "1.0", "a", "1a", "/", ":", "\x00", "1\x00",
		"1000000000", "9999999999", "-1000000000", "0999999999", "0000000001", "-0999999999",
		"9223372036854775807", "-9223372036854775808", "18446744073709551617",
		strings.Repeat("9", 100), "\xff", "1\xff", "\u0661", "\uff11", "1\u0661", "\u2212" + "1", "\u0131",
	} {
		if n, ok := impl.ParseInt(s); n != 0 || ok {
			t.Errorf("ParseInt(%q) = %d, %v, want 0, false", s, n, ok)
		}
	}
}

func TestIntIsInverse(t *testing.T) {
	for _, n := range numbersNearPowers() {
		want, wanted := 0, false
		if n >= -999999999 && n <= 999999999 {
			want, wanted = n, true
		}
		if got, ok := impl.ParseInt(impl.FormatInt(n)); got != want || ok != wanted {
			t.Errorf("%d is formatted as %q and parsed as %d, %v", n, impl.FormatInt(n), got, ok)
		}
	}
	origin := map[string]int{}
	for n := -999; n <= 9999; n++ {
		origin[impl.FormatInt(n)] = n
	}
	for length := range 5 {
		for _, s := range stringsOver("-+0123456789 a", length) {
			want, wanted := origin[s]
			if got, ok := impl.ParseInt(s); got != want || ok != wanted {
				t.Fatalf("ParseInt(%q) = %d, %v, want %d, %v", s, got, ok, want, wanted)
			}
		}
	}
}
