package tests

import (
	"math"
	"strconv"
	"strings"
	"testing"

	"loop.example/g01926/impl"
)

// The tests of this file check promise 2 for operations: they can be parsed from
// their string format, and no other strings are accepted.

// operations returns every valid operation by its format.
func operations() map[string]impl.Op {
	all := map[string]impl.Op{}
	for client := range 3 {
		for seq := 1; seq <= 99; seq++ {
			origin := strconv.Itoa(client) + "." + strconv.Itoa(seq)
			for _, c := range "012" {
				object := int(c - '0')
				for value := range 10 {
					end := " " + strconv.Itoa(value)
					all[origin+" write "+string(c)+end] = impl.Op{Client: client, Seq: seq, Kind: impl.OpWrite, Object: object, Value: value}
					for old := range 10 {
						all[origin+" swap "+string(c)+" "+strconv.Itoa(old)+end] = impl.Op{Client: client, Seq: seq, Kind: impl.OpSwap, Object: object, Old: old, Value: value}
					}
				}
			}
		}
	}
	return all
}

// farNumbers are out of the range of every field, also if some of their bits were lost.
func farNumbers() []int {
	return []int{
		-1, -2, -9, -99, 100, 101, 127, 128, 255, 256, 257, 258, 1000, -255, -256, 65536, 65537,
		1 << 31, 1<<31 + 1, 1 << 32, 1<<32 + 1, 1<<32 + 2, -1 << 32, 1 - 1<<32, 999999999, 1000000000,
		1 << 62, math.MaxInt - 1, math.MaxInt, math.MinInt, math.MinInt + 1, math.MinInt + 2,
	}
}

// validOps returns a write and a swap with the least values of their fields, with
// the greatest ones and with others.
func validOps() []impl.Op {
	return []impl.Op{
		{Client: 0, Seq: 1, Kind: impl.OpWrite, Object: 0, Value: 0},
		{Client: 0, Seq: 1, Kind: impl.OpSwap, Object: 0, Old: 0, Value: 0},
		{Client: 2, Seq: 99, Kind: impl.OpWrite, Object: 2, Value: 9},
		{Client: 2, Seq: 99, Kind: impl.OpSwap, Object: 2, Old: 9, Value: 9},
		{Client: 1, Seq: 10, Kind: impl.OpWrite, Object: 1, Value: 5},
		{Client: 1, Seq: 42, Kind: impl.OpSwap, Object: 1, Old: 3, Value: 4},
	}
}

// wrongOps returns operations in which one field is out of its range.
func wrongOps() []impl.Op {
	wrong := []impl.Op{{}}
	for _, o := range validOps() {
		change := func(field func(*impl.Op) *int, numbers ...int) {
			for _, n := range numbers {
				p := o
				*field(&p) = n
				wrong = append(wrong, p)
			}
		}
		change(func(p *impl.Op) *int { return &p.Client }, append(farNumbers(), 3, 4, 5, 9, 10)...)
		change(func(p *impl.Op) *int { return &p.Seq }, append(farNumbers(), 0)...)
		change(func(p *impl.Op) *int { return &p.Kind }, append(farNumbers(), 0, 3, 4)...)
		change(func(p *impl.Op) *int { return &p.Object }, append(farNumbers(), 3, 4, 5, 9, 10)...)
		change(func(p *impl.Op) *int { return &p.Old }, append(farNumbers(), 10, 11)...)
		change(func(p *impl.Op) *int { return &p.Value }, append(farNumbers(), 10, 11)...)
		if o.Kind == impl.OpWrite {
			change(func(p *impl.Op) *int { return &p.Old }, 1, 2, 3, 4, 5, 6, 7, 8, 9)
		}
	}
	return wrong
}

func TestOperationConstants(t *testing.T) {
	if impl.MaxObjects != 3 || impl.MaxValue != 9 || impl.MaxClients != 3 || impl.MaxSeq != 99 || impl.OpWrite != 1 || impl.OpSwap != 2 {
		t.Error("a constant of chapter 3 has another value")
	}
}

func TestIsValidOpAcceptsAllOperations(t *testing.T) {
	all := operations()
	if len(all) != 3*99*(30+300) {
		t.Fatalf("%d operations", len(all))
	}
	for s, o := range all {
		if !impl.IsValidOp(o) {
			t.Fatalf("IsValidOp(%+v) = false, the operation is %s", o, s)
		}
	}
}

func TestIsValidOpRejects(t *testing.T) {
	for _, o := range wrongOps() {
		if impl.IsValidOp(o) {
			t.Errorf("IsValidOp(%+v) = true", o)
		}
	}
}

// The fields are checked independently of one another, but for Kind and Old.
func TestIsValidOpChecksEveryField(t *testing.T) {
	type choice struct {
		number int
		valid  bool
	}
	clients := []choice{{-1, false}, {0, true}, {2, true}, {3, false}, {math.MaxInt, false}}
	seqs := []choice{{-1, false}, {0, false}, {1, true}, {99, true}, {100, false}, {math.MinInt, false}}
	objects := []choice{{-1, false}, {0, true}, {2, true}, {3, false}, {1 << 32, false}}
	values := []choice{{-1, false}, {0, true}, {9, true}, {10, false}, {256, false}}
	kinds := []struct {
		kind, old int
		valid     bool
	}{
		{impl.OpWrite, -1, false}, {impl.OpWrite, 0, true}, {impl.OpWrite, 1, false}, {impl.OpWrite, 9, false}, {impl.OpWrite, 10, false},
		{impl.OpSwap, -1, false}, {impl.OpSwap, 0, true}, {impl.OpSwap, 1, true}, {impl.OpSwap, 9, true}, {impl.OpSwap, 10, false},
		{0, 0, false}, {3, 0, false}, {-1, 0, false}, {-2, 1, false}, {0, 1, false}, {3, 9, false}, {4, 0, false},
	}
	for _, client := range clients {
		for _, seq := range seqs {
			for _, object := range objects {
				for _, value := range values {
					for _, k := range kinds {
						o := impl.Op{Client: client.number, Seq: seq.number, Kind: k.kind, Object: object.number, Old: k.old, Value: value.number}
						want := client.valid && seq.valid && object.valid && value.valid && k.valid
						if got := impl.IsValidOp(o); got != want {
							t.Fatalf("IsValidOp(%+v) = %v", o, got)
						}
						if got := impl.FormatOp(o); (got != "") != want {
							t.Fatalf("FormatOp(%+v) = %q", o, got)
						}
					}
				}
			}
		}
	}
}

func TestIsNewFormat(t *testing.T) {
	for _, o := range append(validOps(), wrongOps()...) {
		if got, want := impl.IsNewFormat(o), o.Kind == 2; got != want {
			t.Errorf("IsNewFormat(%+v) = %v", o, got)
		}
	}
	for _, kind := range append(farNumbers(), 0, 1, 3, 4) {
		if impl.IsNewFormat(impl.Op{Seq: 1, Kind: kind, Old: 3}) {
			t.Errorf("IsNewFormat of the kind %d = true", kind)
		}
	}
	if !impl.IsNewFormat(impl.Op{Client: -1, Seq: 100, Kind: impl.OpSwap, Object: 3, Old: 10, Value: 10}) {
		t.Error("IsNewFormat of a swap that is not valid = false")
	}
}

func TestFormatOpExamples(t *testing.T) {
	for _, c := range []struct {
		o    impl.Op
		want string
	}{
		{impl.Op{Client: 1, Seq: 2, Kind: impl.OpSwap, Object: 0, Old: 3, Value: 4}, "1.2 swap 0 3 4"},
		{impl.Op{Client: 1, Seq: 2, Kind: impl.OpWrite, Object: 2, Value: 9}, "1.2 write 2 9"},
		{impl.Op{Seq: 1, Kind: impl.OpWrite}, "0.1 write 0 0"},
		{impl.Op{Seq: 1, Kind: impl.OpSwap}, "0.1 swap 0 0 0"},
		{impl.Op{Client: 2, Seq: 99, Kind: impl.OpSwap, Object: 2, Old: 9, Value: 8}, "2.99 swap 2 9 8"},
		{impl.Op{Client: 2, Seq: 10, Kind: impl.OpWrite, Object: 1, Value: 7}, "2.10 write 1 7"},
		{impl.Op{Client: 1, Seq: 2, Kind: impl.OpWrite, Object: 2, Old: 1, Value: 9}, ""},
		{impl.Op{}, ""},
	} {
		if got := impl.FormatOp(c.o); got != c.want {
			t.Errorf("FormatOp(%+v) = %q, want %q", c.o, got, c.want)
		}
	}
}

func TestFormatOpOfAllOperations(t *testing.T) {
	for want, o := range operations() {
		if got := impl.FormatOp(o); got != want {
			t.Fatalf("FormatOp(%+v) = %q, want %q", o, got, want)
		}
	}
}

func TestFormatOpRejects(t *testing.T) {
	for _, o := range wrongOps() {
		if got := impl.FormatOp(o); got != "" {
			t.Errorf("FormatOp(%+v) = %q, want the empty string", o, got)
		}
	}
}

func TestParseOpOfAllFormats(t *testing.T) {
	for s, want := range operations() {
		if got, ok := impl.ParseOp(s); got != want || !ok {
			t.Fatalf("ParseOp(%q) = %+v, %v, want %+v, true", s, got, ok, want)
		}
	}
}

func TestParseOpRejects(t *testing.T) {
	for _, s := range []string{
		// Missing and additional parts.
		"", " ", ".", "none", "0", "0.", "0.1", ".1", "0.1 ", "0.1 write", "0.1 write ", "0.1 write 0", "0.1 write 0 ",
		"0.1 swap", "0.1 swap 0", "0.1 swap 0 5", "0.1 swap 0 5 ", "0.1  0 5", "0.1 0 5", "write 0 5", " write 0 5", "swap 0 3 4",
		"0 write 0 5", "0. write 0 5", ".1 write 0 5", "1 swap 0 3 4", "0.1 write 0 5 5", "0.1 swap 0 3 4 5", "0.1 write 0 5 ", "0.1 swap 0 3 4 ",
		"0.1.1 write 0 5", "0..1 write 0 5", "0.1. write 0 5", ".0.1 write 0 5", "0.0.1 swap 0 3 4", "0.1 write write 0 5", "0.1 swap swap 0 3 4",
		"0.1 write 0 5 0.1 write 0 5", "0.1 write 0 5;0.1 write 0 5", "1:0.1 write 0 5", "op 0 0.1 write 0 5",
		// Words.
		"0.1 drop 0 5", "0.1 Write 0 5", "0.1 WRITE 0 5", "0.1 writes 0 5", "0.1 writ 0 5", "0.1 Swap 0 3 4", "0.1 swaps 0 3 4", "0.1 swa 0 3 4",
		"0.1 write\x00 0 5", "0.1 \u0455wap 0 3 4", "0.1 read 0 5", "0.1 1 0 5", "0.1 2 0 3 4", "0.1 writeswap 0 3 4", "0.1 swap 0 5 write",
		// Numbers out of range.
		"3.1 write 0 5", "-1.1 write 0 5", "10.1 write 0 5", "0.0 write 0 5", "0.100 write 0 5", "0.-1 write 0 5", "0.1 write 3 5", "0.1 write -1 5",
		"0.1 write 0 10", "0.1 write 0 -1", "3.1 swap 0 3 4", "0.0 swap 0 3 4", "0.100 swap 0 3 4", "0.1 swap 3 3 4", "0.1 swap 0 10 4", "0.1 swap 0 -1 4",
		"0.1 swap 0 3 10", "0.1 swap 0 3 -1", "4294967296.1 write 0 5", "0.4294967297 write 0 5", "18446744073709551616.1 write 0 5", "0.18446744073709551617 write 0 5",
		"0.1 write 0 256", "0.1 write 256 5", "0.1 write 0 999999999", "0.1 write 0 18446744073709551616", "0.1 write 0 9223372036854775808",
		// Zeros, signs and other digits.
		"00.1 write 0 5", "0.01 write 0 5", "0.1 write 00 5", "0.1 write 0 05", "0.1 swap 00 3 4", "0.1 swap 0 03 4", "0.1 swap 0 3 04", "01.1 write 0 5",
		"+0.1 write 0 5", "-0.1 write 0 5", "0.+1 write 0 5", "0.1 write +0 5", "0.1 write -0 5", "0.1 write 0 +5", "0.1 swap 0 +3 4", "0.1 swap 0 -0 4", "0.1 swap 0 3 +4",
		"0x0.1 write 0 5", "0.1e0 write 0 5", "0.1 write 0 5.0", "0.1_0 write 0 5", "0.1 write 0 a", "0.a write 0 5",
		"0.\u0661 write 0 5", "0.1 write 0 \uff15", "0.1 write 0 \u0665", "\u0660.1 write 0 5",
		// Spaces and separators.
		" 0.1 write 0 5", "0.1  write 0 5", "0.1 write  0 5", "0.1 write 0  5", "0.1 swap 0  3 4", "0.1 swap 0 3  4", "0 .1 write 0 5", "0. 1 write 0 5",
		"0.1 write 0 5\n", "\n0.1 write 0 5", "0.1\twrite 0 5", "0.1 write\t0 5", "0.1 write 0\n5", "0.1 write 0 5\r", "0.1\u00a0write 0 5", "0.1write 0 5", "0.1 write0 5",
		"0.1 write 05", "0.1 swap 034", "0,1 write 0 5", "0:1 write 0 5", "01 write 0 5", "0.1,write,0,5", "0.1 write 0,5", "0.1 write 0.5", "0.1 write 0-5",
		// Further bytes.
		"\x00", "\xff", "0.1 write 0 5\x00", "\xff0.1 write 0 5", "0.1 write 0 \x05", "0.1 write 0 5\xff", "\xef\xbb\xbf0.1 write 0 5",
		"done 3", "kept 0", strings.Repeat(" ", 100000), strings.Repeat(".", 100000), strings.Repeat("0.1 write 0 5", 10000),
		"0.1 write 0 5" + strings.Repeat(" 5", 100000), "0.1 write 0 " + strings.Repeat("0", 100000), "0.1 write 0 " + strings.Repeat("9", 100000),
	} {
		if got, ok := impl.ParseOp(s); got != (impl.Op{}) || ok {
			t.Errorf("ParseOp(%.40q) = %+v, %v, want the zero value and false", s, got, ok)
		}
	}
}

// stringsBeside returns the strings that differ from s by one byte: a missing one,
// another one or an additional one.
func stringsBeside(s string) []string {
	var all []string
	bytes := allBytes()
	for i := range len(s) + 1 {
		for j := range len(bytes) {
			all = append(all, s[:i]+bytes[j:j+1]+s[i:])
			if i < len(s) {
				all = append(all, s[:i]+bytes[j:j+1]+s[i+1:])
			}
		}
		if i < len(s) {
			all = append(all, s[:i]+s[i+1:])
		}
	}
	return all
}

// checkParseOp compares ParseOp with the list of all formats.
func checkParseOp(t *testing.T, all map[string]impl.Op, s string) {
	t.Helper()
	want, wanted := all[s]
	if got, ok := impl.ParseOp(s); got != want || ok != wanted {
		t.Fatalf("ParseOp(%q) = %+v, %v, want %+v, %v", s, got, ok, want, wanted)
	}
}

func TestParseOpOfStringsBesideFormats(t *testing.T) {
	all := operations()
	for _, s := range []string{
		"0.1 write 0 0", "0.1 swap 0 0 0", "2.99 write 2 9", "2.99 swap 2 9 9", "1.10 write 1 5", "1.2 swap 0 3 4", "0.9 write 0 1", "2.10 swap 1 1 0",
	} {
		if _, ok := all[s]; !ok {
			t.Fatalf("%q is no format", s)
		}
		for _, beside := range stringsBeside(s) {
			checkParseOp(t, all, beside)
		}
	}
}

func TestParseOpOfAllCombinationsOfParts(t *testing.T) {
	all := operations()
	origins := []string{"0.1", "2.99", "1.50", "3.1", "0.0", "0.100", "-1.1", "0.-1", "00.1", "0.01", "+0.1", "0.+1", "0", "0.", ".1", "", "0.1.1", "0.1 ", " 0.1", "write"}
	words := []string{"write", "swap", "Write", "swa", "", "write ", " swap", "drop", "0"}
	numbers := []string{"0", "2", "3", "9", "10", "-1", "00", "+1", "", " 1", "1 ", "a"}
	for _, origin := range origins {
		for _, word := range words {
			begin := origin + " " + word
			checkParseOp(t, all, begin)
			for _, first := range numbers {
				checkParseOp(t, all, begin+" "+first)
				for _, second := range numbers {
					checkParseOp(t, all, begin+" "+first+" "+second)
					for _, third := range numbers {
						checkParseOp(t, all, begin+" "+first+" "+second+" "+third)
						checkParseOp(t, all, begin+" "+first+" "+second+" "+third+" 0")
					}
				}
			}
		}
	}
}

func TestFormatResult(t *testing.T) {
	for value := range 10 {
		digit := strconv.Itoa(value)
		if got := impl.FormatResult(impl.Result{Done: true, Value: value}); got != "done "+digit {
			t.Errorf("FormatResult of %d that is done = %q", value, got)
		}
		if got := impl.FormatResult(impl.Result{Value: value}); got != "kept "+digit {
			t.Errorf("FormatResult of %d that is kept = %q", value, got)
		}
	}
}

func TestFormatResultRejects(t *testing.T) {
	for _, value := range append(farNumbers(), 10, 11, 99) {
		for _, done := range []bool{false, true} {
			if got := impl.FormatResult(impl.Result{Done: done, Value: value}); got != "" {
				t.Errorf("FormatResult(%v, %d) = %q, want the empty string", done, value, got)
			}
		}
	}
}
