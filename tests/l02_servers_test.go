package tests

import (
	"math"
	"slices"
	"strings"
	"testing"

	"loop.example/g01926/impl"
)

// The tests of this file check promise 2 for sets of servers: they can be parsed
// from their string format, and no other strings are accepted.

// serverSets returns the list of each set of servers by its format.
func serverSets() map[string][]int {
	return map[string][]int{
		"none": {},
		"0":    {0}, "1": {1}, "2": {2}, "3": {3}, "4": {4},
		"01": {0, 1}, "02": {0, 2}, "03": {0, 3}, "04": {0, 4}, "12": {1, 2},
		"13": {1, 3}, "14": {1, 4}, "23": {2, 3}, "24": {2, 4}, "34": {3, 4},
		"012": {0, 1, 2}, "013": {0, 1, 3}, "014": {0, 1, 4}, "023": {0, 2, 3}, "024": {0, 2, 4},
		"034": {0, 3, 4}, "123": {1, 2, 3}, "124": {1, 2, 4}, "134": {1, 3, 4}, "234": {2, 3, 4},
		"0123": {0, 1, 2, 3}, "0124": {0, 1, 2, 4}, "0134": {0, 1, 3, 4}, "0234": {0, 2, 3, 4},
		"1234": {1, 2, 3, 4}, "01234": {0, 1, 2, 3, 4},
	}
}

// listsOver returns all lists of at most length of the numbers.
func listsOver(numbers []int, length int) [][]int {
	all := [][]int{nil}
	for begin := 0; length > 0; length-- {
		end := len(all)
		for _, l := range all[begin:end] {
			for _, n := range numbers {
				all = append(all, append(slices.Clone(l), n))
			}
		}
		begin = end
	}
	return all
}

// wrongLists returns lists that are not sets of servers.
func wrongLists() [][]int {
	return [][]int{
		{-1}, {5}, {6}, {8}, {10}, {-5}, {63}, {64}, {65}, {127}, {128}, {255}, {256}, {260}, {-256}, {-252},
		{1 << 32}, {1<<32 + 1}, {1 << 62}, {math.MaxInt}, {math.MinInt}, {math.MinInt + 1},
		{0, 5}, {0, 64}, {0, 256}, {3, 257}, {1, math.MaxInt}, {-1, 0}, {-1, 3}, {math.MinInt, 0}, {math.MinInt, math.MaxInt},
		{0, 0}, {2, 2}, {4, 4}, {0, 1, 1}, {0, 0, 1}, {3, 4, 4},
		{1, 0}, {4, 3}, {2, 1}, {0, 2, 1}, {4, 0}, {0, 1, 0}, {1, 2, 3, 4, 0}, {4, 3, 2, 1, 0}, {0, 1, 3, 2, 4},
		{0, 1, 2, 3, 4, 5}, {0, 1, 2, 3, 4, 4}, {0, 1, 2, 3, 4, 0}, {-1, 0, 1, 2, 3, 4}, {0, 0, 0, 0, 0, 0},
		{0, 1, 2, 3, 5}, {0, 1, 2, 3, 4, 5, 6, 7, 8, 9}, make([]int, 1000),
	}
}

func TestAreServersAcceptsSets(t *testing.T) {
	for _, l := range serverSets() {
		if !impl.AreServers(l) {
			t.Errorf("AreServers(%v) = false", l)
		}
	}
	if !impl.AreServers(nil) {
		t.Error("AreServers(nil) = false")
	}
}

func TestAreServersRejects(t *testing.T) {
	for _, l := range wrongLists() {
		if impl.AreServers(l) {
			t.Errorf("AreServers(%v) = true", l)
		}
	}
}

func TestAreServersOfAllShortLists(t *testing.T) {
	count := 0
	for _, l := range listsOver([]int{-1, 0, 1, 2, 3, 4, 5}, 5) {
		if impl.AreServers(l) {
			count++
		}
	}
	if want := len(serverSets()); count != want || want != 32 {
		t.Errorf("%d lists are servers, want %d of 32", count, want)
	}
}

func TestHasServer(t *testing.T) {
	for _, c := range []struct {
		l    []int
		id   int
		want bool
	}{
		{[]int{1, 3}, 3, true},
		{[]int{1, 3}, 1, true},
		{[]int{1, 3}, 2, false},
		{[]int{1, 3}, 0, false},
		{[]int{0, 1, 2, 3, 4}, 4, true},
		{[]int{0, 1, 2, 3, 4}, 5, false},
		{[]int{0, 1, 2, 3, 4}, -1, false},
		{[]int{0}, 0, true},
		{[]int{0}, 64, false},
		{[]int{0}, 256, false},
		{nil, 0, false},
		{[]int{}, 0, false},
		{[]int{}, -1, false},
		{[]int{3, 1, 3, 0}, 0, true},
		{[]int{3, 1, 3, 0}, 1, true},
		{[]int{3, 1, 3, 0}, 2, false},
		{[]int{4, 4}, 4, true},
		{[]int{-1}, -1, true},
		{[]int{5, 99}, 99, true},
		{[]int{5, 99}, 5, true},
		{[]int{math.MaxInt, math.MinInt}, math.MinInt, true},
		{[]int{math.MaxInt, math.MinInt}, math.MaxInt, true},
		{[]int{math.MaxInt}, -1, false},
		{[]int{0, 1, 2, 3, 4, 5, 6, 7, 8, 9, 0}, 9, true},
	} {
		if got := impl.HasServer(c.l, c.id); got != c.want {
			t.Errorf("HasServer(%v, %d) = %v", c.l, c.id, got)
		}
	}
}

func TestSetOperationsExamples(t *testing.T) {
	least, greatest := math.MinInt, math.MaxInt
	for _, c := range []struct{ a, b, united, common, without []int }{
		{[]int{0, 2}, []int{2, 3}, []int{0, 2, 3}, []int{2}, []int{0}},
		{[]int{2, 3}, []int{0, 2}, []int{0, 2, 3}, []int{2}, []int{3}},
		{[]int{0, 1}, []int{3, 4}, []int{0, 1, 3, 4}, nil, []int{0, 1}},
		{[]int{1, 2}, []int{1, 2}, []int{1, 2}, []int{1, 2}, nil},
		{[]int{0, 1, 2, 3, 4}, []int{1, 3}, []int{0, 1, 2, 3, 4}, []int{1, 3}, []int{0, 2, 4}},
		{[]int{1, 3}, []int{0, 1, 2, 3, 4}, []int{0, 1, 2, 3, 4}, []int{1, 3}, nil},
		{nil, nil, nil, nil, nil},
		{[]int{}, nil, nil, nil, nil},
		{[]int{0, 4}, nil, []int{0, 4}, nil, []int{0, 4}},
		{nil, []int{0, 4}, []int{0, 4}, nil, nil},
		{[]int{3, 1, 3}, nil, []int{1, 3}, nil, []int{1, 3}},
		{[]int{}, []int{3, 1, 3}, []int{1, 3}, nil, nil},
		{[]int{3, 1, 3, 0}, []int{3, 0, 0, 2, 2}, []int{0, 1, 2, 3}, []int{0, 3}, []int{1}},
		{[]int{2, 2, 2}, []int{2}, []int{2}, []int{2}, nil},
		{[]int{-1, 5}, []int{5, -7}, []int{-7, -1, 5}, []int{5}, []int{-1}},
		{[]int{0, 64}, []int{64, 256}, []int{0, 64, 256}, []int{64}, []int{0}},
		{[]int{0}, []int{64}, []int{0, 64}, nil, []int{0}},
		{[]int{greatest, least, 0}, []int{least}, []int{least, 0, greatest}, []int{least}, []int{0, greatest}},
		{[]int{9, 8, 7, 6, 5, 4, 3, 2, 1, 0}, []int{4, 5, 6, 20}, []int{0, 1, 2, 3, 4, 5, 6, 7, 8, 9, 20}, []int{4, 5, 6}, []int{0, 1, 2, 3, 7, 8, 9}},
	} {
		if got := impl.UniteServers(c.a, c.b); !slices.Equal(got, c.united) {
			t.Errorf("UniteServers(%v, %v) = %v, want %v", c.a, c.b, got, c.united)
		}
		if got := impl.CommonServers(c.a, c.b); !slices.Equal(got, c.common) {
			t.Errorf("CommonServers(%v, %v) = %v, want %v", c.a, c.b, got, c.common)
		}
		if got := impl.WithoutServers(c.a, c.b); !slices.Equal(got, c.without) {
			t.Errorf("WithoutServers(%v, %v) = %v, want %v", c.a, c.b, got, c.without)
		}
	}
}

// checkSetOperations compares the set operations with a look at each of the
// numbers, which must be ascending and contain all numbers of both lists.
func checkSetOperations(t *testing.T, a []int, b []int, numbers []int) {
	t.Helper()
	var united, common, without []int
	for _, n := range numbers {
		inA, inB := slices.Contains(a, n), slices.Contains(b, n)
		if inA || inB {
			united = append(united, n)
		}
		if inA && inB {
			common = append(common, n)
		}
		if inA && !inB {
			without = append(without, n)
		}
	}
	if got := impl.UniteServers(a, b); !slices.Equal(got, united) {
		t.Fatalf("UniteServers(%v, %v) = %v, want %v", a, b, got, united)
	}
	if got := impl.CommonServers(a, b); !slices.Equal(got, common) {
		t.Fatalf("CommonServers(%v, %v) = %v, want %v", a, b, got, common)
	}
	if got := impl.WithoutServers(a, b); !slices.Equal(got, without) {
		t.Fatalf("WithoutServers(%v, %v) = %v, want %v", a, b, got, without)
	}
}

func TestSetOperationsOnAllSets(t *testing.T) {
	for _, a := range serverSets() {
		for _, b := range serverSets() {
			checkSetOperations(t, a, b, []int{0, 1, 2, 3, 4})
		}
	}
}

func TestSetOperationsOnAnyLists(t *testing.T) {
	numbers := []int{math.MinInt, -1, 0, 4, 5, math.MaxInt}
	lists := listsOver(numbers, 3)
	for _, a := range lists {
		for _, b := range lists {
			checkSetOperations(t, a, b, numbers)
		}
	}
}

func TestSetOperationsOnLongLists(t *testing.T) {
	var even, third, united, common, without []int
	for n := range 200000 {
		second, both := n%2 == 0, n%6 == 0
		if second {
			even = append(even, n)
		}
		if n%3 == 0 {
			third = append(third, n)
		}
		if second || n%3 == 0 {
			united = append(united, n)
		}
		if both {
			common = append(common, n)
		}
		if second && !both {
			without = append(without, n)
		}
	}
	slices.Reverse(even)
	third = append(third, third...)
	if got := impl.UniteServers(even, third); !slices.Equal(got, united) {
		t.Errorf("UniteServers returns %d numbers, want %d", len(got), len(united))
	}
	if got := impl.CommonServers(even, third); !slices.Equal(got, common) {
		t.Errorf("CommonServers returns %d numbers, want %d", len(got), len(common))
	}
	if got := impl.WithoutServers(even, third); !slices.Equal(got, without) {
		t.Errorf("WithoutServers returns %d numbers, want %d", len(got), len(without))
	}
}

// withSpareCapacity returns the list as a part of a longer one, and that one.
func withSpareCapacity(l []int) ([]int, []int) {
	whole := append(slices.Clone(l), 77, 78, 79, 80, 81, 82)
	return whole[:len(l)], whole
}

func TestSetOperationsKeepTheirArguments(t *testing.T) {
	operations := map[string]func([]int, []int) []int{
		"UniteServers": impl.UniteServers, "CommonServers": impl.CommonServers, "WithoutServers": impl.WithoutServers,
	}
	for name, operation := range operations {
		for _, c := range [][2][]int{
			{{3, 1, 3, 0}, {4, 1, 1}},
			{{0, 1, 2}, {0, 1, 2}},
			{{0, 1, 2}, nil},
			{nil, {0, 1, 2}},
			{{2, 1, 0}, {4, 3}},
			{{9, -9, 9}, {9, 5, -9}},
		} {
			a, wholeA := withSpareCapacity(c[0])
			b, wholeB := withSpareCapacity(c[1])
			beforeA, beforeB := slices.Clone(wholeA), slices.Clone(wholeB)
			got := operation(a, b)
			got = got[:cap(got)]
			for i := range got {
				got[i] = 55
			}
			if !slices.Equal(wholeA, beforeA) || !slices.Equal(wholeB, beforeB) {
				t.Errorf("%s(%v, %v) changes its arguments or shares memory with them: %v, %v", name, c[0], c[1], wholeA, wholeB)
			}
		}
	}
}

func TestEqualServers(t *testing.T) {
	for _, c := range []struct {
		a, b []int
		want bool
	}{
		{nil, nil, true},
		{nil, []int{}, true},
		{[]int{}, nil, true},
		{[]int{}, []int{}, true},
		{[]int{0, 2}, []int{0, 2}, true},
		{[]int{0, 1, 2, 3, 4}, []int{0, 1, 2, 3, 4}, true},
		{[]int{0, 2}, []int{0, 3}, false},
		{[]int{0, 2}, []int{1, 2}, false},
		{[]int{0, 2}, []int{0, 2, 3}, false},
		{[]int{0, 2, 3}, []int{0, 2}, false},
		{[]int{0}, nil, false},
		{nil, []int{0}, false},
		{[]int{0, 2}, []int{2, 0}, false},
		{[]int{2, 0}, []int{2, 0}, true},
		{[]int{1}, []int{1, 1}, false},
		{[]int{1, 1}, []int{1, 1}, true},
		{[]int{1, 1, 2}, []int{1, 2, 2}, false},
		{[]int{0, 1, 2, 3, 4, 5, 6}, []int{0, 1, 2, 3, 4, 5, 6}, true},
		{[]int{0, 1, 2, 3, 4, 5, 6}, []int{0, 1, 2, 3, 4, 5, 7}, false},
		{[]int{math.MaxInt, -1}, []int{math.MaxInt, -1}, true},
		{[]int{math.MaxInt}, []int{math.MinInt}, false},
		{[]int{0}, []int{64}, false},
		{[]int{0}, []int{256}, false},
		{[]int{-1}, []int{5}, false},
	} {
		if got := impl.EqualServers(c.a, c.b); got != c.want {
			t.Errorf("EqualServers(%v, %v) = %v", c.a, c.b, got)
		}
	}
}

func TestFormatServers(t *testing.T) {
	for want, l := range serverSets() {
		if got := impl.FormatServers(l); got != want {
			t.Errorf("FormatServers(%v) = %q, want %q", l, got, want)
		}
	}
	if got := impl.FormatServers(nil); got != "none" {
		t.Errorf("FormatServers(nil) = %q, want none", got)
	}
	for _, l := range wrongLists() {
		if got := impl.FormatServers(l); got != "" {
			t.Errorf("FormatServers(%v) = %q, want the empty string", l, got)
		}
	}
}

func TestParseServers(t *testing.T) {
	for s, want := range serverSets() {
		if got, ok := impl.ParseServers(s); !slices.Equal(got, want) || !ok {
			t.Errorf("ParseServers(%q) = %v, %v, want %v, true", s, got, ok, want)
		}
	}
	if got, ok := impl.ParseServers("none"); len(got) != 0 || !ok {
		t.Errorf("ParseServers(none) = %v, %v, want the empty set and true", got, ok)
	}
}

func TestParseServersRejects(t *testing.T) {
	for _, s := range []string{
		"", "5", "6", "9", "05", "15", "00", "44", "011", "001", "10", "31", "43", "021", "43210", "012344",
		"012345", "0123401234", "-", "-1", "+1", "0-1", "/", ":", "0/", "/0", "a", "1a",
		"0 1", " 0", "0 ", "0\n", "0,1", "0\x00", "\x000", "\x00", "\x01", "\xff", "0\xff", "\xff0",
		"None", "NONE", "non", "one", "none ", " none", "none\n", "nonenone", "none0", "0none", "01none", "n", "no", "nil",
		"\u0660", "0\u0661", "\uff10", "\uff11\uff12", "\u0130", "\U00010030", "\ufffd", "\u00b2",
		strings.Repeat("0", 1000), strings.Repeat("01234", 1000), strings.Repeat("none", 1000),
	} {
		if got, ok := impl.ParseServers(s); got != nil || ok {
			t.Errorf("ParseServers(%q) = %v, %v, want nil, false", s, got, ok)
		}
	}
}

func TestParseServersAcceptsNothingElse(t *testing.T) {
	sets := serverSets()
	check := func(s string) {
		want, wanted := sets[s]
		if got, ok := impl.ParseServers(s); !slices.Equal(got, want) || ok != wanted {
			t.Fatalf("ParseServers(%q) = %v, %v, want %v, %v", s, got, ok, want, wanted)
		}
	}
	for length := range 6 {
		for _, s := range stringsOver("0123456 none", length) {
			check(s)
		}
	}
	for length := range 3 {
		for _, s := range stringsOver(allBytes(), length) {
			check(s)
			check("01" + s)
			check(s + "34")
		}
	}
	for _, s := range stringsOver("01234", 6) {
		check(s)
	}
}

func TestParseServersReturnsNewMemory(t *testing.T) {
	first, _ := impl.ParseServers("024")
	for i := range first[:cap(first)] {
		first[:cap(first)][i] = 55
	}
	if second, ok := impl.ParseServers("024"); !slices.Equal(second, []int{0, 2, 4}) || !ok {
		t.Errorf("the second result is %v, %v", second, ok)
	}
}
