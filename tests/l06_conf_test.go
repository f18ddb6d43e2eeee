package tests

import (
	"math"
	"regexp"
	"slices"
	"strconv"
	"strings"
	"testing"

	"loop.example/g01623/impl"
)

// confGrammar describes how configurations are written, but not which of them
// are valid. Its numbers have no sign, since no number of a valid one has.
var confGrammar = regexp.MustCompile(`^(0|[1-9][0-9]*) (0|[1-9][0-9]*) (0|[1-9][0-9]*) (0|[1-9][0-9]*) (0|[1-9][0-9]*)((?: (?:0|[1-9][0-9]*)(?::(?:0|[1-9][0-9]*):(?:0|[1-9][0-9]*))?)+)$`)

// wantCost is a table of CostOf for MaxRetry and MaxWait.
func wantCost(retry, wait int) int {
	if retry < 0 || retry > 3 || wait < 0 || wait > 3 {
		return 0
	}
	return [][]int{{12, 14, 16, 18}, {18, 21, 24, 27}, {24, 28, 32, 36}, {30, 35, 40, 45}}[retry][wait]
}

func wantSlot(c impl.Conf) int {
	cost := wantCost(c.MaxRetry, c.MaxWait)
	if cost == 0 || c.LockMost < 1 || c.LockMost > 40 {
		return 0
	}
	return cost + cost + c.LockMost
}

// wantConfOk checks a configuration by looking for what is wrong with it.
func wantConfOk(c impl.Conf) bool {
	if wantSlot(c) == 0 || c.Quantum < 1 || c.Quantum > 4 || c.MaxSplit < 1 || c.MaxSplit > 12 || len(c.Masters) == 0 || len(c.Masters) > 4 {
		return false
	}
	least := 0
	for _, m := range c.Masters {
		if m.Prio {
			least += 2 * wantSlot(c)
		}
	}
	return !slices.ContainsFunc(c.Masters, func(m impl.MConf) bool {
		badPrio := m.Prio && (m.Every < least || m.Every > 1000 || m.Cap < 1 || m.Cap > 8)
		return m.Weight < 1 || m.Weight > 4 || badPrio || !m.Prio && (m.Every != 0 || m.Cap != 0)
	})
}

// wantConf reads a configuration with the grammar.
func wantConf(s string) (impl.Conf, bool) {
	parts := confGrammar.FindStringSubmatch(s)
	if parts == nil {
		return impl.Conf{}, false
	}
	good := true
	num := func(word string) int {
		n, err := strconv.ParseInt(word, 10, 64)
		good = good && err == nil
		return int(n)
	}
	c := impl.Conf{Quantum: num(parts[1]), MaxWait: num(parts[2]), MaxRetry: num(parts[3]), MaxSplit: num(parts[4]), LockMost: num(parts[5])}
	for _, word := range strings.Fields(parts[6]) {
		l := strings.Split(word, ":")
		m := impl.MConf{Weight: num(l[0])}
		if len(l) == 3 {
			m = impl.MConf{Weight: m.Weight, Prio: true, Every: num(l[1]), Cap: num(l[2])}
		}
		c.Masters = append(c.Masters, m)
	}
	if !good || !wantConfOk(c) {
		return impl.Conf{}, false
	}
	return c, true
}

// wantConfText joins the words of a configuration, whether or not it is valid.
func wantConfText(c impl.Conf) string {
	s := ""
	for _, n := range []int{c.Quantum, c.MaxWait, c.MaxRetry, c.MaxSplit, c.LockMost} {
		s += strconv.FormatInt(int64(n), 10) + " "
	}
	for _, m := range c.Masters {
		s += strconv.FormatInt(int64(m.Weight), 10)
		if m.Prio {
			s += ":" + strconv.FormatInt(int64(m.Every), 10) + ":" + strconv.FormatInt(int64(m.Cap), 10)
		}
		s += " "
	}
	return strings.TrimSuffix(s, " ")
}

// mastersOf returns one master per letter of kinds, a priority master for a p,
// with different weights and capacities.
func mastersOf(kinds string, every int) []impl.MConf {
	var l []impl.MConf
	for i, kind := range kinds {
		m := impl.MConf{Weight: 4 - i%4}
		if kind == 'p' {
			m.Prio, m.Every, m.Cap = true, every, 1+(i*5+every)%8
		}
		l = append(l, m)
	}
	return l
}

func allKinds() []string {
	var l []string
	forEachText("np", 4, func(s string) {
		if s != "" {
			l = append(l, s)
		}
	})
	return l
}

// forEachSlot calls f with a configuration without masters for every MaxWait,
// MaxRetry and LockMost in range.
func forEachSlot(f func(c impl.Conf)) {
	for wait := range 4 {
		for retry := range 4 {
			for lock := 1; lock <= 40; lock++ {
				f(impl.Conf{Quantum: 1 + lock%4, MaxWait: wait, MaxRetry: retry, MaxSplit: 1 + lock%12, LockMost: lock})
			}
		}
	}
}

// validConfs returns configurations with few and many masters, and with
// numbers as small and as large as they can be.
func validConfs() []impl.Conf {
	low := impl.Conf{Quantum: 1, MaxSplit: 1, LockMost: 1}
	high := impl.Conf{Quantum: 4, MaxWait: 3, MaxRetry: 3, MaxSplit: 12, LockMost: 40}
	var l []impl.Conf
	for _, kinds := range []string{"n", "p", "np", "pp", "nnnn", "pnnp", "pnpp", "pppp"} {
		count := strings.Count(kinds, "p")
		low.Masters = mastersOf(kinds, 50*count)
		l = append(l, low)
		if count < 4 {
			high.Masters = mastersOf(kinds, 1000)
			l = append(l, high)
		}
	}
	return l
}

func sameConfFields(a, b impl.Conf) bool {
	return wantConfText(a) == wantConfText(b) && slices.Equal(a.Masters, b.Masters)
}

// checkConf checks the three functions that tell whether a configuration is
// valid, and the formatted text.
func checkConf(t *testing.T, c impl.Conf) {
	t.Helper()
	s, want, wantText := wantConfText(c), wantConfOk(c), ""
	if want {
		wantText = s
	}
	if got := impl.ConfOk(c); got != want {
		t.Errorf("ConfOk(%v) = %v", c, got)
	}
	if got := impl.ConfText(c); got != wantText {
		t.Errorf("ConfText(%v) = %q, want %q", c, got, wantText)
	}
	if got, ok := impl.ReadConf(wantText); ok != want || want && (!sameConfFields(got, c) || !impl.SameConf(got, c)) {
		t.Errorf("ReadConf(%q) = %v, %v", wantText, got, ok)
	}
	checkReadConf(t, s)
}

func checkInvalidConf(t *testing.T, c impl.Conf) {
	t.Helper()
	if impl.ConfOk(c) {
		t.Errorf("ConfOk(%v) is true", c)
	}
	if got := impl.ConfText(c); got != "" {
		t.Errorf("ConfText(%v) = %q, want none", c, got)
	}
}

// checkReadConf checks that s is read as the grammar says, or not at all.
func checkReadConf(t *testing.T, s string) {
	t.Helper()
	want, wantOk := wantConf(s)
	if got, ok := impl.ReadConf(s); ok != wantOk || !sameConfFields(got, want) {
		t.Errorf("ReadConf(%.300q) = %v, %v, want %v, %v", s, got, ok, want, wantOk)
	}
}

func checkNoConf(t *testing.T, s string) {
	t.Helper()
	if got, ok := impl.ReadConf(s); ok || !sameConfFields(got, impl.Conf{}) {
		t.Errorf("ReadConf(%.300q) = %v, %v, want none", s, got, ok)
	}
}

func TestMostMasters(t *testing.T) {
	if impl.MaxMasters != 4 {
		t.Error(impl.MaxMasters)
	}
}

func TestCostAndSlotExamples(t *testing.T) {
	for _, c := range []struct{ wait, retry, lock, cost, slot int }{
		{0, 0, 1, 12, 25},
		{3, 3, 40, 45, 130},
		{3, 0, 10, 18, 46},
		{0, 3, 10, 30, 70},
		{1, 2, 7, 28, 63},
		{0, 0, 0, 12, 0},
		{0, 0, 41, 12, 0},
		{0, 0, -1, 12, 0},
		{4, 0, 1, 0, 0},
		{0, 4, 1, 0, 0},
		{-1, 0, 1, 0, 0},
		{0, -1, 1, 0, 0},
		{-1, -1, 1, 0, 0},
		{-2, -2, 20, 0, 0},
		{-6, -2, 40, 0, 0},
	} {
		conf := impl.Conf{MaxWait: c.wait, MaxRetry: c.retry, LockMost: c.lock}
		if got := impl.CostOf(conf); got != c.cost {
			t.Errorf("CostOf(%v) = %d, want %d", conf, got, c.cost)
		}
		if got := impl.SlotOf(conf); got != c.slot {
			t.Errorf("SlotOf(%v) = %d, want %d", conf, got, c.slot)
		}
	}
}

func TestCostAndSlotEverywhere(t *testing.T) {
	numbers := append(sampleNumbers(), 3, 4, 5, 6)
	for _, wait := range numbers {
		for _, retry := range numbers {
			for _, lock := range []int{math.MinInt, -1, 0, 1, 2, 39, 40, 41, math.MaxInt} {
				c := impl.Conf{MaxWait: wait, MaxRetry: retry, LockMost: lock}
				if got := impl.CostOf(c); got != wantCost(retry, wait) {
					t.Errorf("CostOf(%v) = %d", c, got)
				}
				if got := impl.SlotOf(c); got != wantSlot(c) {
					t.Errorf("SlotOf(%v) = %d", c, got)
				}
			}
		}
	}
	forEachSlot(func(c impl.Conf) {
		if got := impl.SlotOf(c); got != wantSlot(c) {
			t.Errorf("SlotOf(%v) = %d", c, got)
		}
	})
}

// The cost and the slot of a configuration do not depend on whether the rest
// of it is valid.
func TestCostAndSlotOfInvalidConfs(t *testing.T) {
	for _, c := range []impl.Conf{
		{MaxWait: 2, MaxRetry: 1, LockMost: 5},
		{MaxWait: 2, MaxRetry: 1, LockMost: 5, Quantum: -1, MaxSplit: 99},
		{MaxWait: 2, MaxRetry: 1, LockMost: 5, Quantum: 1, MaxSplit: 1, Masters: mastersOf("pp", 1)},
		{MaxWait: 2, MaxRetry: 1, LockMost: 5, Quantum: 1, MaxSplit: 1, Masters: make([]impl.MConf, 9)},
	} {
		if impl.CostOf(c) != 24 || impl.SlotOf(c) != 53 {
			t.Errorf("CostOf(%v) = %d, SlotOf = %d", c, impl.CostOf(c), impl.SlotOf(c))
		}
		checkInvalidConf(t, c)
	}
}

func TestConfTextExamples(t *testing.T) {
	for _, c := range []struct {
		c    impl.Conf
		want string
	}{
		{impl.Conf{Quantum: 1, MaxSplit: 1, LockMost: 1, Masters: []impl.MConf{{Weight: 1}}}, "1 0 0 1 1 1"},
		{impl.Conf{Quantum: 4, MaxWait: 3, MaxRetry: 2, MaxSplit: 12, LockMost: 40, Masters: []impl.MConf{{Weight: 4}, {Weight: 3}, {Weight: 2}, {Weight: 1}}}, "4 3 2 12 40 4 3 2 1"},
		{impl.Conf{Quantum: 2, MaxWait: 1, MaxRetry: 3, MaxSplit: 5, LockMost: 9, Masters: []impl.MConf{{Weight: 2, Prio: true, Every: 1000, Cap: 8}}}, "2 1 3 5 9 2:1000:8"},
		{impl.Conf{Quantum: 1, MaxSplit: 10, LockMost: 10, Masters: []impl.MConf{{Weight: 1, Prio: true, Every: 136, Cap: 1}, {Weight: 4}, {Weight: 3, Prio: true, Every: 200, Cap: 2}}}, "1 0 0 10 10 1:136:1 4 3:200:2"},
		{impl.Conf{Quantum: 1, MaxSplit: 1, LockMost: 1, Masters: []impl.MConf{{Weight: 1, Prio: true, Every: 200, Cap: 1}, {Weight: 2, Prio: true, Every: 201, Cap: 2}, {Weight: 3, Prio: true, Every: 999, Cap: 7}, {Weight: 4, Prio: true, Every: 1000, Cap: 8}}}, "1 0 0 1 1 1:200:1 2:201:2 3:999:7 4:1000:8"},
	} {
		if got := impl.ConfText(c.c); got != c.want || !impl.ConfOk(c.c) {
			t.Errorf("ConfText(%v) = %q, want %q", c.c, got, c.want)
		}
		if got, ok := impl.ReadConf(c.want); !ok || !sameConfFields(got, c.c) {
			t.Errorf("ReadConf(%q) = %v, %v", c.want, got, ok)
		}
	}
}

// Promise 3: a configuration can be parsed from its text.
func TestReadConfInvertsConfText(t *testing.T) {
	found := 0
	forEachSlot(func(c impl.Conf) {
		for _, kinds := range allKinds() {
			c.Masters = mastersOf(kinds, 997)
			checkConf(t, c)
			if impl.ConfOk(c) {
				found++
			}
		}
	})
	// Four priority masters are too many for a slot of more than 124.
	if want := 16*40*30 - (40 - 34); found != want {
		t.Errorf("%d configurations are valid, want %d", found, want)
	}
}

// The edge case of the stage: the tokens of a priority master may not refill
// faster than all priority masters together can use them.
func TestPriorityMastersMayNotRefillTooFast(t *testing.T) {
	forEachSlot(func(c impl.Conf) {
		for _, kinds := range allKinds() {
			count := strings.Count(kinds, "p")
			if count == 0 {
				continue
			}
			least := 2 * wantSlot(c) * count
			for _, every := range []int{least - 1, least, least + 1, 999, 1000, 1001} {
				c.Masters = mastersOf(kinds, every)
				if got := impl.ConfOk(c); got != (every >= least && every <= 1000) {
					t.Errorf("ConfOk(%v) = %v; the least Every is %d", c, got, least)
				}
				checkConf(t, c)
			}
		}
	})
}

// It is enough that one of the priority masters refills too fast, whichever it
// is; masters of the other kind do not count.
func TestOnePriorityMasterThatRefillsTooFast(t *testing.T) {
	c := impl.Conf{Quantum: 1, MaxSplit: 1, LockMost: 1}
	for _, kinds := range allKinds() {
		least := 50 * strings.Count(kinds, "p")
		for i, kind := range kinds {
			if kind != 'p' {
				continue
			}
			for _, every := range []int{least, least - 1, 1001, 1, 0, -1, -least, least - 50, math.MinInt, math.MaxInt, 1<<32 + least} {
				c.Masters = mastersOf(kinds, least)
				c.Masters[i].Every = every
				checkConf(t, c)
				if got := impl.ConfOk(c); got != (every == least) {
					t.Errorf("ConfOk(%v) = %v; the least Every is %d", c, got, least)
				}
			}
		}
	}
	// One more priority master doubles the least Every of the first one.
	c.Masters = []impl.MConf{{Weight: 1, Prio: true, Every: 50, Cap: 1}, {Weight: 1}}
	if !impl.ConfOk(c) {
		t.Error("one priority master needs an Every of 50")
	}
	c.Masters[1] = impl.MConf{Weight: 1, Prio: true, Every: 100, Cap: 1}
	checkInvalidConf(t, c)
	checkNoConf(t, "1 0 0 1 1 1:50:1 1:100:1")
	c.Masters[0].Every = 100
	if !impl.ConfOk(c) {
		t.Error("two priority masters need an Every of 100")
	}
}

// Four priority masters are impossible if a slot is so long that the least
// Every is more than the largest one.
func TestSlotsThatAreTooLongForPriorityMasters(t *testing.T) {
	c := impl.Conf{Quantum: 1, MaxWait: 3, MaxRetry: 3, MaxSplit: 1, LockMost: 40}
	for every := range 1100 {
		c.Masters = mastersOf("pppp", every)
		checkInvalidConf(t, c)
	}
	c.LockMost = 35
	c.Masters = mastersOf("pppp", 1000)
	if !impl.ConfOk(c) {
		t.Errorf("ConfOk(%v) is false", c)
	}
	c.LockMost = 36
	checkInvalidConf(t, c)
}

// numberAt returns the number at place i of a configuration: first those of
// all masters together, then those of each master.
func numberAt(c *impl.Conf, i int) *int {
	if i < 5 {
		return []*int{&c.Quantum, &c.MaxWait, &c.MaxRetry, &c.MaxSplit, &c.LockMost}[i]
	}
	m := &c.Masters[(i-5)/3]
	return []*int{&m.Weight, &m.Every, &m.Cap}[(i-5)%3]
}

func TestConfNumbersOneBeyondTheLimit(t *testing.T) {
	numbers := append(sampleNumbers(), 3, 5, 6, 7, 9, 10, 11, 12, 13, 14, 39, 40, 41, 42, 99, 100, 199, 200, 999, 1000, 1001)
	for _, c := range validConfs() {
		for i := range 5 + 3*len(c.Masters) {
			for _, n := range numbers {
				other := c
				other.Masters = slices.Clone(c.Masters)
				*numberAt(&other, i) = n
				if got := impl.ConfOk(other); got != wantConfOk(other) {
					t.Errorf("ConfOk(%v) = %v", other, got)
				}
				if !wantConfOk(other) {
					checkInvalidConf(t, other)
				} else {
					checkConf(t, other)
				}
			}
		}
	}
}

// The same with the limits written out, so that they do not depend on the
// other check.
func TestConfLimits(t *testing.T) {
	base := impl.Conf{Quantum: 1, MaxSplit: 1, LockMost: 1, Masters: []impl.MConf{{Weight: 1, Prio: true, Every: 500, Cap: 1}}}
	for i, limits := range [][2]int{{1, 4}, {0, 3}, {0, 3}, {1, 12}, {1, 40}, {1, 4}, {50, 1000}, {1, 8}} {
		for n := -10; n <= 1010; n++ {
			c := base
			c.Masters = slices.Clone(base.Masters)
			*numberAt(&c, i) = n
			if got := impl.ConfOk(c); got != (n >= limits[0] && n <= limits[1]) {
				t.Errorf("ConfOk(%v) = %v; the limits are %v", c, got, limits)
			}
		}
	}
}

func TestOtherMastersHaveNoTokens(t *testing.T) {
	for _, c := range []impl.MConf{{Weight: 1, Every: 50, Cap: 1}, {Weight: 1, Every: 50}, {Weight: 1, Cap: 1}, {Weight: 1, Every: -1}, {Weight: 1, Cap: -1}, {Weight: 1, Every: 1000, Cap: 8}} {
		conf := impl.Conf{Quantum: 1, MaxSplit: 1, LockMost: 1, Masters: []impl.MConf{c}}
		checkInvalidConf(t, conf)
		conf.Masters = []impl.MConf{{Weight: 1}, c}
		checkInvalidConf(t, conf)
		conf.Masters = []impl.MConf{{Weight: 1, Prio: true, Every: 900, Cap: 1}, c}
		checkInvalidConf(t, conf)
	}
	checkInvalidConf(t, impl.Conf{Quantum: 1, MaxSplit: 1, LockMost: 1, Masters: []impl.MConf{{Weight: 1, Prio: true}}})
}

func TestConfsNeedOneToFourMasters(t *testing.T) {
	for count := range 20 {
		for _, kind := range []string{"n", "p"} {
			c := impl.Conf{Quantum: 1, MaxSplit: 1, LockMost: 1, Masters: mastersOf(strings.Repeat(kind, count), 1000)}
			if got := impl.ConfOk(c); got != (count >= 1 && count <= 4) {
				t.Errorf("ConfOk(%v) = %v", c, got)
			}
			checkConf(t, c)
		}
	}
	checkInvalidConf(t, impl.Conf{})
	checkInvalidConf(t, impl.Conf{Quantum: 1, MaxSplit: 1, LockMost: 1, Masters: []impl.MConf{}})
	checkInvalidConf(t, impl.Conf{Quantum: 1, MaxSplit: 1, LockMost: 1, Masters: mastersOf(strings.Repeat("n", 100000), 0)})
}

func TestSameConfComparesEachField(t *testing.T) {
	a := impl.Conf{Quantum: 1, MaxWait: 2, MaxRetry: 3, MaxSplit: 4, LockMost: 5, Masters: []impl.MConf{{Weight: 2}, {Weight: 1, Prio: true, Every: 200, Cap: 3}}}
	b := a
	b.Masters = append(make([]impl.MConf, 0, 9), a.Masters...)
	if !impl.SameConf(a, a) || !impl.SameConf(a, b) || !impl.SameConf(b, a) {
		t.Error("equal configurations differ")
	}
	for i, change := range []func(c *impl.Conf){
		func(c *impl.Conf) { c.Quantum = 2 },
		func(c *impl.Conf) { c.Quantum += 1 << 32 },
		func(c *impl.Conf) { c.MaxWait = 3 },
		func(c *impl.Conf) { c.MaxRetry = 2 },
		func(c *impl.Conf) { c.MaxSplit = 5 },
		func(c *impl.Conf) { c.LockMost = 4 },
		func(c *impl.Conf) { c.MaxWait, c.MaxRetry = 3, 2 },
		func(c *impl.Conf) { c.MaxSplit, c.LockMost = 5, 4 },
		func(c *impl.Conf) { c.Masters[0].Weight = 1 },
		func(c *impl.Conf) { c.Masters[0].Prio = true },
		func(c *impl.Conf) { c.Masters[0].Every = 1 },
		func(c *impl.Conf) { c.Masters[0].Cap = 1 },
		func(c *impl.Conf) { c.Masters[1].Weight = 2 },
		func(c *impl.Conf) { c.Masters[1].Prio = false },
		func(c *impl.Conf) { c.Masters[1].Every = 201 },
		func(c *impl.Conf) { c.Masters[1].Cap = 4 },
		func(c *impl.Conf) { slices.Reverse(c.Masters) },
		func(c *impl.Conf) { c.Masters = c.Masters[:1] },
		func(c *impl.Conf) { c.Masters = c.Masters[1:] },
		func(c *impl.Conf) { c.Masters = append(c.Masters, impl.MConf{}) },
		func(c *impl.Conf) { c.Masters = nil },
	} {
		c := a
		c.Masters = slices.Clone(a.Masters)
		change(&c)
		if impl.SameConf(a, c) || impl.SameConf(c, a) {
			t.Errorf("change %d is not seen: %v", i, c)
		}
	}
}

// Whether a configuration is valid does not matter for its comparison, and
// neither does whether an empty list is nil.
func TestSameConfOfAnyConfs(t *testing.T) {
	odd := impl.Conf{Quantum: math.MinInt, MaxWait: -1, MaxRetry: 99, LockMost: math.MaxInt, Masters: mastersOf("npnpnpnp", -1)}
	same := odd
	same.Masters = slices.Clone(odd.Masters)
	if !impl.SameConf(odd, same) || impl.SameConf(odd, impl.Conf{}) {
		t.Error("invalid configurations are not compared")
	}
	if !impl.SameConf(impl.Conf{}, impl.Conf{Masters: []impl.MConf{}}) || !impl.SameConf(impl.Conf{Masters: []impl.MConf{}}, impl.Conf{}) {
		t.Error("a nil list and an empty one differ")
	}
}

func TestReadConfExamplesOfOtherTexts(t *testing.T) {
	for _, s := range []string{
		"", " ", "     ", "      ", "1", "1 0", "1 0 0 1", "1 0 0 1 1", "1 0 0 1 1 ", " 1 0 0 1 1 1", "1 0 0 1 1 1 ", "1  0 0 1 1 1", "1 0 0 1 1  1", "1\t0 0 1 1 1", "1 0 0 1 1 1\n", "1 0 0 1 1 1\x00", "1 0 0 1 1\u00a01", "1,0,0,1,1,1",
		"01 0 0 1 1 1", "1 00 0 1 1 1", "1 0 -0 1 1 1", "1 0 0 +1 1 1", "1 0 0 1 01 1", "1 0 0 1 1 01", "1 0 0 1 1 0x1", "1 0 0 1 1 1.", "1 0 0 1 1 1e0", "1 0 0 1_0 1 1", "1 0 0 1 1 \u0661", "x 0 0 1 1 1", "1 x 0 1 1 1", "1 0 x 1 1 1", "1 0 0 x 1 1", "1 0 0 1 x 1", "1 0 0 1 1 x",
		"0 0 0 1 1 1", "5 0 0 1 1 1", "-1 0 0 1 1 1", "1 4 0 1 1 1", "1 -1 0 1 1 1", "1 0 4 1 1 1", "1 0 -1 1 1 1", "1 0 0 0 1 1", "1 0 0 13 1 1", "1 0 0 -1 1 1", "1 0 0 1 0 1", "1 0 0 1 41 1", "1 0 0 1 -1 1", "1 0 0 1 1 0", "1 0 0 1 1 5", "1 0 0 1 1 -1",
		"4294967297 0 0 1 1 1", "18446744073709551617 0 0 1 1 1", "1 18446744073709551616 0 1 1 1", "1 0 0 1 1 18446744073709551617", "1 0 0 1 1 1:18446744073709551666:1",
		"1 0 0 1 1 1:49:1", "1 0 0 1 1 1:1001:1", "1 0 0 1 1 1:0:0", "1 0 0 1 1 1:-50:1", "1 0 0 1 1 1:50:0", "1 0 0 1 1 1:50:9", "1 0 0 1 1 1:50:-1", "1 0 0 1 1 0:50:1", "1 0 0 1 1 5:50:1", "1 0 0 1 1 1:50:1 1:50:1", "1 0 0 1 1 1:100:1 1:99:1", "1 0 0 1 1 1:99:1 1:100:1",
		"1 0 0 1 1 1:50", "1 0 0 1 1 1:", "1 0 0 1 1 1::", "1 0 0 1 1 :50:1", "1 0 0 1 1 1::1", "1 0 0 1 1 1:50:", "1 0 0 1 1 1:50:1:", "1 0 0 1 1 1:50:1:1", "1 0 0 1 1 :1:50:1", "1 0 0 1 1 1:050:1", "1 0 0 1 1 1:50:01", "1 0 0 1 1 1:+50:1", "1 0 0 1 1 1: 50:1", "1 0 0 1 1 1 :50:1", "1 0 0 1 1 1:50 :1", "1 0 0 1 1 1;50;1", "1 0 0 1 1 1 50 1", "1 0 0 1 1:50:1 1", "1:50:1 0 0 1 1 1",
		"1 0 0 1 1 1 1 1 1 1", "1 0 0 1 1 1 1 1 1 ", "1 0 0 1 1 1 1 1 1 x", "1 0 0 1 1 1:200:1 1:200:1 1:200:1 1:200:1 1", "1 0 0 1 1 1:250:1 1:250:1 1:250:1 1:250:1 1:250:1", "1 0 0 1 1 1:200:1 1:200:1 1:200:1 1:199:1", "4 3 3 12 40 1:1000:1 1:1000:1 1:1000:1 1:1000:1",
		"1 0 0 1 1 1\n1 0 0 1 1 1", "1 0 0 1 1 1\x80", "conf 1 0 0 1 1 1",
	} {
		checkNoConf(t, s)
	}
}

// Promise 3: no other strings are accepted. These texts differ in one byte
// from the text of a configuration.
func TestReadConfOfTextsWithAnotherByte(t *testing.T) {
	bytes := "0123456789 :-+x\n\t\x00\x80"
	for _, c := range validConfs() {
		s := wantConfText(c)
		for i := range len(s) + 1 {
			checkReadConf(t, s[:i])
			checkReadConf(t, s[i:])
			for j := range len(bytes) {
				checkReadConf(t, s[:i]+bytes[j:j+1]+s[i:])
				if i < len(s) {
					checkReadConf(t, s[:i]+bytes[j:j+1]+s[i+1:])
				}
			}
			if i < len(s) {
				checkReadConf(t, s[:i]+s[i+1:])
			}
		}
	}
}

// The same for texts that differ in a word: one is left out, written twice,
// put before the previous one, followed by another one, or replaced.
func TestReadConfOfTextsWithAnotherWord(t *testing.T) {
	other := []string{"", "0", "1", "4", "5", "12", "13", "40", "41", "00", "01", "-1", "x", ":", "::", "1:50:1", "1:200:8", "4:1000:1", "1:1001:1", "1:200", "1:200:9", "1:200:1:1", "1:0:0"}
	for _, c := range validConfs() {
		words := strings.Split(wantConfText(c), " ")
		for i := range words {
			checkReadConf(t, strings.Join(slices.Delete(slices.Clone(words), i, i+1), " "))
			checkReadConf(t, strings.Join(slices.Insert(slices.Clone(words), i, words[i]), " "))
			if i > 0 {
				swapped := slices.Clone(words)
				swapped[i-1], swapped[i] = words[i], words[i-1]
				checkReadConf(t, strings.Join(swapped, " "))
			}
			for _, w := range other {
				checkReadConf(t, strings.Join(slices.Insert(slices.Clone(words), i+1, w), " "))
				replaced := slices.Clone(words)
				replaced[i] = w
				checkReadConf(t, strings.Join(replaced, " "))
			}
		}
	}
}

func TestReadConfOfEveryFewWords(t *testing.T) {
	words := []string{"0", "1", "4", "1:200:1", "-1", ""}
	var grow func(s string, left int)
	grow = func(s string, left int) {
		checkReadConf(t, s)
		if left == 0 {
			return
		}
		for _, w := range words {
			grow(s+" "+w, left-1)
		}
	}
	for _, w := range words {
		grow(w, 5)
	}
}

func TestReadConfOfShortTexts(t *testing.T) {
	forEachText("01 :x\x00", 6, func(s string) {
		checkNoConf(t, s)
		checkReadConf(t, "1 0 0 1 1 "+s)
	})
	for i := range 256 {
		checkNoConf(t, string([]byte{byte(i)}))
		checkReadConf(t, "1 0 0 1 1 "+string([]byte{byte(i)}))
	}
}

func TestReadConfOfLongTexts(t *testing.T) {
	for _, s := range []string{
		strings.Repeat(" ", 100000), strings.Repeat("1 ", 100000), strings.Repeat(":", 100000), "1 0 0 1 1" + strings.Repeat(" 1", 100000), "1 0 0 1 1 1" + strings.Repeat(":50", 100000), "1 0 0 1 1 1:50:1" + strings.Repeat(":", 100000),
		"1 0 0 1 1 " + strings.Repeat("0", 100000) + "1", "1 0 0 1 1 " + strings.Repeat("9", 100000), "1 0 0 1 1 1:" + strings.Repeat("0", 100000) + "50:1",
	} {
		checkNoConf(t, s)
	}
}

func TestConfFunctionsKeepTheirArguments(t *testing.T) {
	whole := mastersOf("nnpnnn", 200)
	kept := slices.Clone(whole)
	a := impl.Conf{Quantum: 1, MaxSplit: 1, LockMost: 1, Masters: whole[1:4]}
	b := a
	b.Masters = slices.Clone(a.Masters)
	if impl.CostOf(a) != 12 || impl.SlotOf(a) != 25 || !impl.ConfOk(a) || impl.ConfText(a) != wantConfText(a) || !impl.SameConf(a, b) {
		t.Errorf("ConfText(%v) = %q", a, impl.ConfText(a))
	}
	if !slices.Equal(whole, kept) {
		t.Error("the masters or the capacity after them have changed")
	}
}

func TestReadConfIsNewMemory(t *testing.T) {
	s := "1 0 0 1 1 2 1:50:3 4"
	a, _ := impl.ReadConf(s)
	b, _ := impl.ReadConf(s)
	clear(a.Masters[:cap(a.Masters)])
	c, _ := impl.ReadConf(s)
	if want := []impl.MConf{{Weight: 2}, {Weight: 1, Prio: true, Every: 50, Cap: 3}, {Weight: 4}}; !slices.Equal(b.Masters, want) || !slices.Equal(c.Masters, want) {
		t.Error("two results share memory")
	}
}
