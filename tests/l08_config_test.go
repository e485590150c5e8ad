package tests

import (
	"math"
	"slices"
	"strconv"
	"strings"
	"testing"

	"loop.example/g01926/impl"
)

// The tests of this file check the part of promise 7 that chapter 8 contains, the
// configurations themselves, and promise 2 for configurations: they can be parsed
// from their string format, and no other strings are accepted.

// config returns a configuration whose lists have the formats replicas and witnesses.
func config(epoch int, primary int, replicas string, witnesses string) impl.Config {
	sets := serverSets()
	return impl.Config{Epoch: epoch, Primary: primary, Replicas: sets[replicas], Witnesses: sets[witnesses]}
}

// configs returns every valid configuration by its format.
func configs() map[string]impl.Config {
	all := map[string]impl.Config{}
	sets := serverSets()
	for replicas := range sets {
		for witnesses := range sets {
			if replicas == "none" || witnesses != "none" && strings.ContainsAny(replicas, witnesses) {
				continue
			}
			for _, primary := range replicas {
				for epoch := 1; epoch <= 20; epoch++ {
					s := strconv.Itoa(epoch) + " " + string(primary) + " " + replicas + " " + witnesses
					all[s] = config(epoch, int(primary-'0'), replicas, witnesses)
				}
			}
		}
	}
	return all
}

// fewConfigs returns valid configurations with and without witnesses, with one
// replica and with all servers.
func fewConfigs() []impl.Config {
	return []impl.Config{
		config(3, 1, "012", "4"),
		config(1, 0, "0", "none"),
		config(20, 4, "4", "none"),
		config(20, 4, "01234", "none"),
		config(1, 0, "0", "1234"),
		config(19, 4, "4", "0123"),
		config(2, 2, "024", "13"),
		config(10, 3, "13", "024"),
		config(7, 0, "03", "none"),
	}
}

// copyOfConfig returns a configuration that shares no memory with c.
func copyOfConfig(c impl.Config) impl.Config {
	c.Replicas, c.Witnesses = slices.Clone(c.Replicas), slices.Clone(c.Witnesses)
	return c
}

func sameConfig(a impl.Config, b impl.Config) bool {
	return a.Epoch == b.Epoch && a.Primary == b.Primary && slices.Equal(a.Replicas, b.Replicas) && slices.Equal(a.Witnesses, b.Witnesses)
}

// wrongConfigs returns configurations that are not valid. In most of them one field
// of a valid one has been changed.
func wrongConfigs() []impl.Config {
	var wrong []impl.Config
	for _, valid := range fewConfigs() {
		change := func(apply func(c *impl.Config)) {
			c := copyOfConfig(valid)
			apply(&c)
			wrong = append(wrong, c)
		}
		for _, n := range append(farNumbers(), 0, 21, 22, 99) {
			change(func(c *impl.Config) { c.Epoch = n })
		}
		for _, n := range append(farNumbers(), 5, 6, 8, 10, 64, 65) {
			change(func(c *impl.Config) { c.Primary = n })
		}
		for id := range 5 {
			if !slices.Contains(valid.Replicas, id) {
				change(func(c *impl.Config) { c.Primary = id })
			} else {
				change(func(c *impl.Config) { c.Witnesses = []int{id} })
				change(func(c *impl.Config) { c.Witnesses = []int{0, 1, 2, 3, 4} })
			}
		}
		for _, id := range valid.Witnesses {
			change(func(c *impl.Config) {
				c.Replicas = append(c.Replicas, id)
				slices.Sort(c.Replicas)
			})
		}
		for _, l := range wrongLists() {
			change(func(c *impl.Config) { c.Replicas = slices.Clone(l) })
			change(func(c *impl.Config) { c.Witnesses = slices.Clone(l) })
		}
		change(func(c *impl.Config) { c.Replicas = nil })
		change(func(c *impl.Config) { c.Replicas = []int{} })
	}
	return append(wrong, wrongConfigsWithPrimary()...)
}

// wrongConfigsWithPrimary returns configurations whose Primary is in Replicas, but
// whose lists are no sets of servers or not disjoint.
func wrongConfigsWithPrimary() []impl.Config {
	var wrong []impl.Config
	for _, l := range wrongLists() {
		for _, primary := range l {
			wrong = append(wrong, impl.Config{Epoch: 1, Primary: primary, Replicas: slices.Clone(l)})
			if len(l) > 10 {
				break
			}
		}
	}
	return append(wrong,
		impl.Config{},
		impl.Config{Epoch: 1},
		impl.Config{Epoch: 1, Witnesses: []int{0}},
		impl.Config{Epoch: 1, Replicas: []int{0}, Witnesses: []int{0}},
		impl.Config{Epoch: 1, Replicas: []int{0, 1}, Witnesses: []int{1}},
		impl.Config{Epoch: 1, Replicas: []int{0, 1}, Witnesses: []int{1, 2}},
		impl.Config{Epoch: 20, Primary: 4, Replicas: []int{3, 4}, Witnesses: []int{0, 3}},
		impl.Config{Epoch: 20, Primary: 4, Replicas: []int{0, 1, 2, 3, 4}, Witnesses: []int{0, 1, 2, 3, 4}},
		impl.Config{Epoch: 20, Primary: 5, Replicas: []int{1, 5}},
		impl.Config{Epoch: 20, Primary: -1, Replicas: []int{-1, 1}},
		impl.Config{Epoch: 2, Primary: 1, Replicas: []int{0, 1}, Witnesses: []int{2, 5}},
		impl.Config{Epoch: 2, Primary: 1, Replicas: []int{0, 1}, Witnesses: []int{-1}},
		impl.Config{Epoch: 2, Primary: 1, Replicas: []int{0, 1}, Witnesses: []int{3, 2}},
		impl.Config{Epoch: 2, Primary: 1, Replicas: []int{0, 1}, Witnesses: []int{2, 2}},
	)
}

// listFormat joins the numbers, without a look at whether they are a set.
func listFormat(l []int) string {
	if len(l) == 0 {
		return "none"
	}
	s := ""
	for _, n := range l {
		s += strconv.Itoa(n)
	}
	return s
}

// expectedRole finds the role of a member of a valid configuration in its lists.
func expectedRole(c impl.Config, id int) int {
	switch {
	case id == c.Primary:
		return 1
	case slices.Contains(c.Replicas, id):
		return 2
	case slices.Contains(c.Witnesses, id):
		return 3
	}
	return 0
}

// checkConfig compares the functions that take one configuration with the list of
// all valid ones. The lists of c contain numbers of one digit, or -1.
func checkConfig(t *testing.T, all map[string]impl.Config, c impl.Config) {
	t.Helper()
	s := strconv.Itoa(c.Epoch) + " " + strconv.Itoa(c.Primary) + " " + listFormat(c.Replicas) + " " + listFormat(c.Witnesses)
	_, valid := all[s]
	if got := impl.IsValidConfig(c); got != valid {
		t.Fatalf("IsValidConfig(%v) = %v", c, got)
	}
	var members []int
	roles := map[int]int{}
	if valid {
		for id := range 5 {
			roles[id] = expectedRole(c, id)
			if roles[id] != 0 {
				members = append(members, id)
			}
		}
	} else {
		s = ""
	}
	if got := impl.FormatConfig(c); got != s {
		t.Fatalf("FormatConfig(%v) = %q, want %q", c, got, s)
	}
	if got := impl.MembersOf(c); !slices.Equal(got, members) {
		t.Fatalf("MembersOf(%v) = %v, want %v", c, got, members)
	}
	for id := -2; id < 8; id++ {
		if got := impl.RoleOf(c, id); got != roles[id] {
			t.Fatalf("RoleOf(%v, %d) = %d, want %d", c, id, got, roles[id])
		}
	}
}

func TestConfigConstants(t *testing.T) {
	if impl.RoleNone != 0 || impl.RolePrimary != 1 || impl.RoleBackup != 2 || impl.RoleWitness != 3 {
		t.Error("a constant of chapter 8 has another value")
	}
}

// Each server is a replica, a witness or neither; any of the replicas is the Primary.
func TestAllConfigs(t *testing.T) {
	all := configs()
	if len(all) != 20*5*81 {
		t.Fatalf("%d configurations", len(all))
	}
	for s, c := range all {
		if got := impl.FormatConfig(c); got != s {
			t.Fatalf("FormatConfig(%v) = %q, want %q", c, got, s)
		}
		checkConfig(t, all, c)
	}
}

func TestIsValidConfigAcceptsTheLimits(t *testing.T) {
	for _, c := range append(fewConfigs(),
		impl.Config{Epoch: 1, Replicas: []int{0}},
		impl.Config{Epoch: 1, Replicas: []int{0}, Witnesses: []int{}},
		impl.Config{Epoch: 20, Replicas: []int{0}},
		impl.Config{Epoch: 2, Primary: 4, Replicas: []int{4}},
		impl.Config{Epoch: 2, Primary: 4, Replicas: []int{0, 4}, Witnesses: []int{1, 2, 3}},
		impl.Config{Epoch: 2, Primary: 1, Replicas: []int{1}, Witnesses: []int{0, 2, 3, 4}},
		impl.Config{Epoch: 2, Primary: 3, Replicas: []int{0, 1, 2, 3, 4}},
	) {
		if !impl.IsValidConfig(c) {
			t.Errorf("IsValidConfig(%v) = false", c)
		}
	}
}

func TestIsValidConfigChecksTheEpoch(t *testing.T) {
	for epoch := -100; epoch <= 100; epoch++ {
		if got, want := impl.IsValidConfig(config(epoch, 1, "01", "3")), epoch >= 1 && epoch <= 20; got != want {
			t.Errorf("IsValidConfig of the Epoch %d = %v", epoch, got)
		}
	}
}

func TestInvalidConfigs(t *testing.T) {
	for _, c := range wrongConfigs() {
		if impl.IsValidConfig(c) {
			t.Errorf("IsValidConfig(%v) = true", c)
		}
		if got := impl.FormatConfig(c); got != "" {
			t.Errorf("FormatConfig(%v) = %q, want the empty string", c, got)
		}
		if got := impl.MembersOf(c); len(got) != 0 {
			t.Errorf("MembersOf(%v) = %v, want the empty list", c, got)
		}
		for _, id := range append(farNumbers(), 0, 1, 2, 3, 4, 5, c.Primary) {
			if got := impl.RoleOf(c, id); got != impl.RoleNone {
				t.Errorf("RoleOf(%v, %d) = %d, want RoleNone", c, id, got)
			}
		}
	}
}

// The fields are checked together: any lists, any Primary.
func TestConfigsWithAllShortLists(t *testing.T) {
	all := configs()
	lists := listsOver([]int{-1, 0, 2, 4, 5}, 2)
	lists = append(lists, []int{0, 1, 2}, []int{2, 1, 0}, []int{0, 2, 2}, []int{1, 3}, []int{0, 1, 2, 3, 4}, []int{0, 1, 2, 3, 4, 5})
	for _, epoch := range []int{-1, 0, 1, 20, 21} {
		for _, replicas := range lists {
			for _, witnesses := range lists {
				for primary := -1; primary <= 5; primary++ {
					checkConfig(t, all, impl.Config{Epoch: epoch, Primary: primary, Replicas: replicas, Witnesses: witnesses})
				}
			}
		}
	}
}

func TestMembersOfExamples(t *testing.T) {
	for _, c := range []struct {
		c    impl.Config
		want []int
	}{
		{config(3, 1, "012", "4"), []int{0, 1, 2, 4}},
		{config(3, 1, "1", "none"), []int{1}},
		{config(3, 3, "34", "01"), []int{0, 1, 3, 4}},
		{config(3, 3, "13", "024"), []int{0, 1, 2, 3, 4}},
		{config(3, 0, "04", "none"), []int{0, 4}},
		{config(3, 2, "01", "2"), nil},
		{config(0, 1, "01", "2"), nil},
		{config(3, 1, "01", "1"), nil},
		{impl.Config{}, nil},
	} {
		if got := impl.MembersOf(c.c); !slices.Equal(got, c.want) {
			t.Errorf("MembersOf(%v) = %v, want %v", c.c, got, c.want)
		}
	}
}

func TestRoleOfExamples(t *testing.T) {
	c := config(3, 1, "012", "4")
	for id, want := range map[int]int{
		0: impl.RoleBackup, 1: impl.RolePrimary, 2: impl.RoleBackup, 3: impl.RoleNone, 4: impl.RoleWitness,
		-1: impl.RoleNone, 5: impl.RoleNone, 6: impl.RoleNone, 8: impl.RoleNone,
	} {
		if got := impl.RoleOf(c, id); got != want {
			t.Errorf("RoleOf(%v, %d) = %d, want %d", c, id, got, want)
		}
	}
	c.Primary = 4
	for id := range 5 {
		if got := impl.RoleOf(c, id); got != impl.RoleNone {
			t.Errorf("RoleOf(%v, %d) = %d, want RoleNone, because its Primary is a witness", c, id, got)
		}
	}
}

func TestRoleOfServersThatDoNotExist(t *testing.T) {
	for _, c := range fewConfigs() {
		for _, id := range append(farNumbers(), 5, 6, 7, 8, 9, 10, 63, 64, 65, 68) {
			if got := impl.RoleOf(c, id); got != impl.RoleNone {
				t.Errorf("RoleOf(%v, %d) = %d, want RoleNone", c, id, got)
			}
		}
	}
}

func TestConfigWithoutWitnesses(t *testing.T) {
	for _, witnesses := range [][]int{nil, {}} {
		c := impl.Config{Epoch: 4, Primary: 2, Replicas: []int{0, 2}, Witnesses: witnesses}
		if !impl.IsValidConfig(c) {
			t.Errorf("IsValidConfig(%v) = false", c)
		}
		if got := impl.FormatConfig(c); got != "4 2 02 none" {
			t.Errorf("FormatConfig(%v) = %q", c, got)
		}
		if got := impl.MembersOf(c); !slices.Equal(got, []int{0, 2}) {
			t.Errorf("MembersOf(%v) = %v", c, got)
		}
		for id, want := range []int{impl.RoleBackup, impl.RoleNone, impl.RolePrimary, impl.RoleNone, impl.RoleNone} {
			if got := impl.RoleOf(c, id); got != want {
				t.Errorf("RoleOf(%v, %d) = %d, want %d", c, id, got, want)
			}
		}
		got, ok := impl.ParseConfig("4 2 02 none")
		if !ok || !sameConfig(got, c) || !impl.EqualConfigs(got, c) {
			t.Errorf("ParseConfig(4 2 02 none) = %v, %v", got, ok)
		}
	}
}

func TestRoleName(t *testing.T) {
	for role, want := range []string{"none", "primary", "backup", "witness"} {
		if got := impl.RoleName(role); got != want {
			t.Errorf("RoleName(%d) = %q, want %q", role, got, want)
		}
	}
	for _, role := range append(farNumbers(), 4, 5, 6, 7, 8, 16, 64) {
		if got := impl.RoleName(role); got != "" {
			t.Errorf("RoleName(%d) = %q, want the empty string", role, got)
		}
	}
}

func checkEqualConfigs(t *testing.T, a impl.Config, b impl.Config, want bool) {
	t.Helper()
	if got := impl.EqualConfigs(a, b); got != want {
		t.Errorf("EqualConfigs(%v, %v) = %v", a, b, got)
	}
	if got := impl.EqualConfigs(b, a); got != want {
		t.Errorf("EqualConfigs(%v, %v) = %v", b, a, got)
	}
}

func TestEqualConfigsOfEqualOnes(t *testing.T) {
	for _, c := range append(fewConfigs(), wrongConfigs()...) {
		checkEqualConfigs(t, c, c, true)
		checkEqualConfigs(t, c, copyOfConfig(c), true)
	}
}

// changedConfigs returns configurations that differ from c in one field each.
func changedConfigs(c impl.Config) []impl.Config {
	var all []impl.Config
	for _, n := range []int{1, -1, 2, 5, 256, 1 << 32, math.MinInt} {
		all = append(all,
			impl.Config{Epoch: c.Epoch + n, Primary: c.Primary, Replicas: c.Replicas, Witnesses: c.Witnesses},
			impl.Config{Epoch: c.Epoch, Primary: c.Primary + n, Replicas: c.Replicas, Witnesses: c.Witnesses},
		)
	}
	for _, l := range otherLists(c.Replicas) {
		all = append(all, impl.Config{Epoch: c.Epoch, Primary: c.Primary, Replicas: l, Witnesses: c.Witnesses})
	}
	for _, l := range otherLists(c.Witnesses) {
		all = append(all, impl.Config{Epoch: c.Epoch, Primary: c.Primary, Replicas: c.Replicas, Witnesses: l})
	}
	return all
}

// otherLists returns lists that differ from l: in one number, in the length, in the
// order or in a repetition.
func otherLists(l []int) [][]int {
	all := [][]int{append(slices.Clone(l), 4), append(slices.Clone(l), 5), append([]int{0}, l...), append([]int{-1}, l...)}
	for i := range l {
		for _, n := range []int{1, -1, 5, 64, 256, 1 << 32} {
			other := slices.Clone(l)
			other[i] += n
			all = append(all, other)
		}
		all = append(all, slices.Delete(slices.Clone(l), i, i+1), slices.Insert(slices.Clone(l), i, l[i]))
	}
	reversed := slices.Clone(l)
	slices.Reverse(reversed)
	if !slices.Equal(reversed, l) {
		all = append(all, reversed)
	}
	return all
}

func TestEqualConfigsComparesEveryField(t *testing.T) {
	for _, c := range append(fewConfigs(), wrongConfigsWithPrimary()...) {
		if len(c.Replicas) > 10 {
			continue
		}
		for _, d := range changedConfigs(c) {
			checkEqualConfigs(t, c, d, false)
		}
	}
}

func TestEqualConfigsOfAllPairs(t *testing.T) {
	var all []impl.Config
	for _, epoch := range []int{-1, 0, 2} {
		for _, primary := range []int{0, 1, 5} {
			for _, replicas := range [][]int{nil, {}, {0}, {1}, {0, 1}, {1, 0}, {1, 1}} {
				for _, witnesses := range [][]int{nil, {}, {0}, {1}, {0, 1}, {5}} {
					all = append(all, impl.Config{Epoch: epoch, Primary: primary, Replicas: replicas, Witnesses: witnesses})
				}
			}
		}
	}
	for _, a := range all {
		for _, b := range all {
			if got, want := impl.EqualConfigs(a, b), sameConfig(a, b); got != want {
				t.Fatalf("EqualConfigs(%v, %v) = %v", a, b, got)
			}
		}
	}
}

func TestEqualConfigsTreatsNilAsEmpty(t *testing.T) {
	checkEqualConfigs(t, impl.Config{}, impl.Config{Replicas: []int{}, Witnesses: []int{}}, true)
	checkEqualConfigs(t, impl.Config{Replicas: []int{}}, impl.Config{Witnesses: []int{}}, true)
	checkEqualConfigs(t, impl.Config{Epoch: 1, Replicas: []int{0}}, impl.Config{Epoch: 1, Replicas: []int{0}, Witnesses: []int{}}, true)
	checkEqualConfigs(t, impl.Config{Epoch: 1, Witnesses: []int{0}}, impl.Config{Epoch: 1, Replicas: []int{}, Witnesses: []int{0}}, true)
	checkEqualConfigs(t, impl.Config{}, impl.Config{Replicas: []int{0}}, false)
	checkEqualConfigs(t, impl.Config{}, impl.Config{Witnesses: []int{0}}, false)
	checkEqualConfigs(t, impl.Config{Replicas: []int{0}}, impl.Config{Witnesses: []int{0}}, false)
}

func TestFormatConfigExamples(t *testing.T) {
	for _, c := range []struct {
		c    impl.Config
		want string
	}{
		{impl.Config{Epoch: 3, Primary: 1, Replicas: []int{0, 1, 2}, Witnesses: []int{4}}, "3 1 012 4"},
		{impl.Config{Epoch: 1, Primary: 0, Replicas: []int{0}}, "1 0 0 none"},
		{impl.Config{Epoch: 20, Primary: 4, Replicas: []int{4}, Witnesses: []int{0, 1, 2, 3}}, "20 4 4 0123"},
		{impl.Config{Epoch: 10, Primary: 2, Replicas: []int{0, 1, 2, 3, 4}, Witnesses: []int{}}, "10 2 01234 none"},
		{impl.Config{Epoch: 21, Primary: 1, Replicas: []int{0, 1, 2}, Witnesses: []int{4}}, ""},
		{impl.Config{Epoch: 3, Primary: 4, Replicas: []int{0, 1, 2}, Witnesses: []int{4}}, ""},
		{impl.Config{Epoch: 3, Primary: 1, Witnesses: []int{4}}, ""},
		{impl.Config{Epoch: 3, Primary: 1, Replicas: []int{0, 1, 2}, Witnesses: []int{1}}, ""},
		{impl.Config{Epoch: 3, Primary: 1, Replicas: []int{1, 0}}, ""},
		{impl.Config{}, ""},
	} {
		if got := impl.FormatConfig(c.c); got != c.want {
			t.Errorf("FormatConfig(%v) = %q, want %q", c.c, got, c.want)
		}
	}
}

// checkParseConfig compares ParseConfig with the list of all formats. A string that
// is none of them must yield the zero value.
func checkParseConfig(t *testing.T, all map[string]impl.Config, s string) {
	t.Helper()
	want, wanted := all[s]
	if got, ok := impl.ParseConfig(s); !sameConfig(got, want) || ok != wanted {
		t.Fatalf("ParseConfig(%.40q) = %v, %v, want %v, %v", s, got, ok, want, wanted)
	}
}

func TestConfigFormatIsInverse(t *testing.T) {
	all := configs()
	for s, c := range all {
		checkParseConfig(t, all, s)
		parsed, ok := impl.ParseConfig(s)
		if !ok || impl.FormatConfig(parsed) != s || !impl.EqualConfigs(parsed, c) || !impl.IsValidConfig(parsed) {
			t.Fatalf("ParseConfig(%q) = %v, %v", s, parsed, ok)
		}
	}
}

func TestParseConfigRejects(t *testing.T) {
	for _, s := range []string{
		// Missing and additional parts.
		"", " ", "  ", "   ", "    ", "none", "3", "3 ", "3 1", "3 1 ", "3 1 012", "3 1 012 ", "1 012 4", "3 012 4", "3 1 4", "3  012 4", "3 1  4", " 1 012 4",
		"3 1 012 4 ", "3 1 012 4 4", "3 1 012 4 3", "3 1 012 none none", "3 1 012 4 none", "3 1 012 4 3 1 012 4", "3 1 012 4;3 1 012 4", "none none none none",
		// Numbers and sets out of range.
		"0 1 012 4", "-1 1 012 4", "21 1 012 4", "99 1 012 4", "256 1 012 4", "257 1 012 4", "4294967297 1 012 4", "18446744073709551617 1 012 4",
		"3 3 012 4", "3 4 012 4", "3 5 012 4", "3 -1 012 4", "3 10 012 4", "3 257 012 4", "3 4294967297 012 4", "3 1 none 4", "3 1 none none", "1 0 none none",
		"3 5 015 4", "3 1 015 4", "3 1 012 5", "3 1 012 45", "3 1 021 4", "3 1 0112 4", "3 1 011 4", "3 1 210 4", "3 1 012 43", "3 1 012 44", "3 1 012 34 ",
		"3 1 012 0", "3 1 012 1", "3 1 012 24", "3 1 012 01234", "3 1 01234 4", "3 1 012 012",
		// Zeros, signs and other digits.
		"03 1 012 4", "3 01 012 4", "3 1 0012 4", "3 1 012 04", "3 1 012 044", "+3 1 012 4", "-3 1 012 4", "3 +1 012 4", "3 -1 012 4", "3 1 +012 4", "3 1 012 +4", "3 1 -012 4", "3 1 012 -4",
		"3 -0 012 4", "3 0 -012 4", "3.0 1 012 4", "3e0 1 012 4", "0x3 1 012 4", "3_ 1 012 4", "3 1 0_12 4", "a 1 012 4", "3 a 012 4", "3 1 a 4", "3 1 012 a",
		"\u0663 1 012 4", "3 \u0661 012 4", "3 1 \u0660\u0661\u0662 4", "3 1 012 \uff14",
		// Words.
		"3 1 012 None", "3 1 012 NONE", "3 1 012 non", "3 1 012 nones", "3 1 012 none0", "3 1 012 4none", "3 1 012 none ", "3 1 012 nil", "3 1 012 -", "3 1 012 empty", "none 1 012 4", "3 none 012 4",
		// Spaces and separators.
		" 3 1 012 4", "3  1 012 4", "3 1  012 4", "3 1 012  4", "3 1 012 4\n", "\n3 1 012 4", "3\t1 012 4", "3 1\t012 4", "3 1 012\t4", "3\n1\n012\n4", "3 1 012 4\r", "3\u00a01 012 4",
		"3,1,012,4", "3.1 012 4", "3:1 012 4", "31 012 4", "3 1012 4", "3 1 0124", "3 1 0 1 2 4", "3 1 0,1,2 4", "3 1 012 3 4", "3 1 [0 1 2] [4]",
		// Further bytes.
		"\x00", "\xff", "3 1 012 4\x00", "\x003 1 012 4", "3 1 012 4\xff", "\xff3 1 012 4", "3 1 012 \x04", "\x03 \x01 012 4", "\xef\xbb\xbf3 1 012 4",
		// Formats of other chapters, and long strings.
		"012", "0.1 write 0 5", "1:0.1 write 0 5", "000", "3 1 012 4 none 012", strings.Repeat(" ", 100000), strings.Repeat("3 1 012 4", 10000),
		"3 1 012 4" + strings.Repeat(" 4", 100000), strings.Repeat("3", 100000) + " 1 012 4", "3 1 " + strings.Repeat("0", 100000) + " 4", "3 1 012 " + strings.Repeat("4", 100000),
	} {
		if got, ok := impl.ParseConfig(s); !sameConfig(got, impl.Config{}) || ok {
			t.Errorf("ParseConfig(%.40q) = %v, %v, want the zero value and false", s, got, ok)
		}
	}
}

func TestParseConfigOfStringsBesideFormats(t *testing.T) {
	all := configs()
	for _, s := range []string{"3 1 012 4", "1 0 0 none", "20 4 4 0123", "10 2 01234 none", "2 1 1 0", "19 3 013 24", "11 4 014 none"} {
		if _, ok := all[s]; !ok {
			t.Fatalf("%q is no format", s)
		}
		for _, beside := range stringsBeside(s) {
			checkParseConfig(t, all, beside)
		}
	}
}

func TestParseConfigOfAllShortStrings(t *testing.T) {
	all := configs()
	for length := range 10 {
		for _, s := range stringsOver("01 2", length) {
			checkParseConfig(t, all, s)
		}
	}
	for _, s := range stringsOver("0 none", 5) {
		checkParseConfig(t, all, "1 0 "+s)
		checkParseConfig(t, all, s+" 0 none")
	}
}

func TestParseConfigOfAllCombinationsOfParts(t *testing.T) {
	all := configs()
	epochs := []string{"1", "20", "9", "0", "21", "-1", "01", "+1", "", "none", "1 ", " 1"}
	primaries := []string{"0", "1", "4", "5", "-1", "00", "+0", "-0", "", "none", "0 ", "01"}
	lists := []string{"0", "4", "01", "04", "14", "014", "01234", "123", "none", "", "10", "00", "5", "05", "-1", "+0", " 0", "0 ", "None", "0none"}
	for _, epoch := range epochs {
		for _, primary := range primaries {
			begin := epoch + " " + primary
			checkParseConfig(t, all, begin)
			for _, replicas := range lists {
				checkParseConfig(t, all, begin+" "+replicas)
				for _, witnesses := range lists {
					checkParseConfig(t, all, begin+" "+replicas+" "+witnesses)
					checkParseConfig(t, all, begin+" "+replicas+" "+witnesses+" none")
				}
			}
		}
	}
}

// spoilList overwrites a list as far as its capacity allows.
func spoilList(l []int) {
	l = l[:cap(l)]
	for i := range l {
		l[i] = 55
	}
}

func TestMembersOfReturnsNewMemory(t *testing.T) {
	for _, valid := range fewConfigs() {
		c := copyOfConfig(valid)
		want := slices.Clone(impl.MembersOf(c))
		spoilList(impl.MembersOf(c))
		if !sameConfig(c, valid) {
			t.Errorf("a change of MembersOf(%v) changes the argument to %v", valid, c)
		}
		if got := impl.MembersOf(c); !slices.Equal(got, want) {
			t.Errorf("the second MembersOf(%v) is %v", c, got)
		}
	}
}

func TestParseConfigReturnsNewMemory(t *testing.T) {
	for s := range configs() {
		first, _ := impl.ParseConfig(s)
		replicas, witnesses := slices.Clone(first.Replicas), slices.Clone(first.Witnesses)
		spoilList(first.Replicas)
		if !slices.Equal(first.Witnesses, witnesses) {
			t.Fatalf("the lists of ParseConfig(%q) share memory", s)
		}
		spoilList(first.Witnesses)
		if second, ok := impl.ParseConfig(s); !ok || !slices.Equal(second.Replicas, replicas) || !slices.Equal(second.Witnesses, witnesses) {
			t.Fatalf("the second ParseConfig(%q) is %v, %v", s, second, ok)
		}
	}
}

func TestConfigFunctionsKeepTheirArguments(t *testing.T) {
	for _, c := range append(fewConfigs(), wrongConfigs()...) {
		roomy := c
		var wholeReplicas, wholeWitnesses []int
		roomy.Replicas, wholeReplicas = withSpareCapacity(c.Replicas)
		roomy.Witnesses, wholeWitnesses = withSpareCapacity(c.Witnesses)
		beforeReplicas, beforeWitnesses := slices.Clone(wholeReplicas), slices.Clone(wholeWitnesses)
		impl.IsValidConfig(roomy)
		spoilList(impl.MembersOf(roomy))
		impl.RoleOf(roomy, 1)
		impl.EqualConfigs(roomy, roomy)
		impl.EqualConfigs(roomy, c)
		impl.EqualConfigs(c, roomy)
		impl.FormatConfig(roomy)
		if !slices.Equal(wholeReplicas, beforeReplicas) || !slices.Equal(wholeWitnesses, beforeWitnesses) {
			t.Fatalf("an argument has changed: %v is %v and %v", c, wholeReplicas, wholeWitnesses)
		}
	}
}
