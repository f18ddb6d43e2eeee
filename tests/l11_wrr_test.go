package tests

import (
	"math"
	"slices"
	"testing"

	"loop.example/g01623/impl"
)

// wrrConf returns a valid configuration with a master for each weight.
func wrrConf(quantum int, weights ...int) impl.Conf {
	c := impl.Conf{Quantum: quantum, MaxSplit: 1, LockMost: 1}
	for _, weight := range weights {
		c.Masters = append(c.Masters, impl.MConf{Weight: weight})
	}
	return c
}

// forEachWrrConf calls f with every mix of a quantum and weights, and with
// configurations that have priority masters.
func forEachWrrConf(f func(c impl.Conf)) {
	forEachText("\x01\x02\x03\x04", 4, func(s string) {
		for quantum := 1; quantum <= 4 && s != ""; quantum++ {
			c := wrrConf(quantum)
			for _, weight := range []byte(s) {
				c.Masters = append(c.Masters, impl.MConf{Weight: int(weight)})
			}
			f(c)
		}
	})
	for _, c := range validConfs() {
		f(c)
	}
}

// badWrrConfs returns configurations that are invalid because of one number or
// of the number of masters. Most of them would have turns otherwise.
func badWrrConfs() []impl.Conf {
	l := []impl.Conf{{}, wrrConf(1), wrrConf(2, 1, 1, 1, 1, 1), wrrConf(0, 1, 2), wrrConf(5, 1, 2), wrrConf(-1, 1, 2), wrrConf(-1, -1, -2), wrrConf(2, 1, 0), wrrConf(2, 0, 1), wrrConf(2, 1, 5), wrrConf(2, 5, 1), wrrConf(2, -1, 1), wrrConf(1<<62, 4, 1), wrrConf(2, math.MaxInt, 1), wrrConf(2, 1, math.MinInt)}
	for i := range 5 + 3*2 {
		for _, bad := range []int{-1, 41, 2000, math.MinInt, math.MaxInt} {
			c := wrrConf(2, 1, 2)
			*numberAt(&c, i) = bad
			l = append(l, c)
		}
	}
	c := wrrConf(2, 1, 2)
	c.Masters[1] = impl.MConf{Weight: 2, Prio: true, Every: 49, Cap: 1}
	return append(l, c)
}

// wantTurns returns for each master how often it is selected in one turn. There
// is none if the configuration is invalid.
func wantTurns(c impl.Conf) []int {
	var l []int
	for _, m := range c.Masters {
		turn := 0
		for range c.Quantum {
			turn += m.Weight
		}
		l = append(l, turn)
	}
	if !wantConfOk(c) {
		return nil
	}
	return l
}

func sumOf(l []int) int {
	sum := 0
	for _, n := range l {
		sum += n
	}
	return sum
}

// forEachArbiter calls f with every arbiter that is valid with c.
func forEachArbiter(c impl.Conf, f func(w impl.Wrr)) {
	for at, turn := range wantTurns(c) {
		for credit := range turn + 1 {
			f(impl.Wrr{At: at, Credit: credit})
		}
	}
}

// oddArbiters returns arbiters around the borders of every configuration, and
// far away from all of them.
func oddArbiters() []impl.Wrr {
	var l []impl.Wrr
	for _, at := range []int{math.MinInt, -1 << 32, -2, -1, 0, 1, 2, 3, 4, 5, 1 << 32, 1<<32 + 1, math.MaxInt} {
		for _, credit := range []int{math.MinInt, -1 << 32, -2, -1, 0, 1, 2, 3, 4, 5, 8, 9, 16, 17, 1 << 32, math.MaxInt} {
			l = append(l, impl.Wrr{At: at, Credit: credit})
		}
	}
	return l
}

// wantWrrOk looks for the arbiter among all valid ones.
func wantWrrOk(w impl.Wrr, c impl.Conf) bool {
	found := false
	forEachArbiter(c, func(good impl.Wrr) { found = found || good == w })
	return found
}

func forEachWants(masters int, f func(wants []bool)) {
	for bits := range 1 << masters {
		wants := make([]bool, masters)
		for i := range wants {
			wants[i] = bits>>i&1 == 1
		}
		f(wants)
	}
}

func repeated(value bool, count int) []bool {
	return slices.Repeat([]bool{value}, count)
}

// wantPick selects a master for a valid arbiter from a list of those that may
// follow, in their order.
func wantPick(w impl.Wrr, c impl.Conf, wants []bool) (impl.Wrr, int) {
	if w.Credit != 0 && wants[w.At] {
		return impl.Wrr{At: w.At, Credit: w.Credit - 1}, w.At
	}
	order := []int{0, 1, 2, 3}[:len(wants)]
	order = slices.Concat(order[w.At+1:], order[:w.At+1])
	i := slices.IndexFunc(order, func(who int) bool { return wants[who] })
	if i < 0 {
		return impl.Wrr{At: w.At}, -1
	}
	return impl.Wrr{At: order[i], Credit: wantTurns(c)[order[i]] - 1}, order[i]
}

func checkPick(t *testing.T, w impl.Wrr, c impl.Conf, wants []bool, want impl.Wrr, wantWho int) {
	t.Helper()
	if got, who := impl.WrrPick(w, c, wants); got != want || who != wantWho {
		t.Errorf("WrrPick(%v, %v, %v) = %v, %d, want %v, %d", w, c, wants, got, who, want, wantWho)
	}
}

func checkBack(t *testing.T, w impl.Wrr, c impl.Conf, who int, want impl.Wrr) {
	t.Helper()
	if got := impl.WrrBack(w, c, who); got != want {
		t.Errorf("WrrBack(%v, %v, %d) = %v, want %v", w, c, who, got, want)
	}
}

// checkArbiterKept checks that no function uses an invalid arbiter.
func checkArbiterKept(t *testing.T, w impl.Wrr, c impl.Conf) {
	t.Helper()
	if impl.WrrOk(w, c) {
		t.Errorf("WrrOk(%v, %v) is true", w, c)
	}
	for _, count := range []int{len(c.Masters), 0, 1, 4} {
		checkPick(t, w, c, repeated(true, count), w, -1)
		checkPick(t, w, c, repeated(false, count), w, -1)
	}
	for _, who := range []int{w.At, -1, 0, 1, 2, 3, 4} {
		checkBack(t, w, c, who, w)
	}
}

func TestTurnOfExamples(t *testing.T) {
	c := wrrConf(3, 1, 4, 2)
	for _, x := range []struct{ who, want int }{{0, 3}, {1, 12}, {2, 6}, {3, 0}, {4, 0}, {-1, 0}, {-3, 0}, {math.MaxInt, 0}, {math.MinInt, 0}, {1 << 32, 0}} {
		if got := impl.TurnOf(c, x.who); got != x.want {
			t.Errorf("TurnOf(%v, %d) = %d, want %d", c, x.who, got, x.want)
		}
	}
	if got := impl.TurnOf(wrrConf(1, 1), 0); got != 1 {
		t.Errorf("the shortest turn is %d", got)
	}
	if got := impl.TurnOf(wrrConf(4, 1, 1, 1, 4), 3); got != 16 {
		t.Errorf("the longest turn is %d", got)
	}
}

func TestTurnOfEverywhere(t *testing.T) {
	forEachWrrConf(func(c impl.Conf) {
		for who, turn := range append(wantTurns(c), 0, 0, 0, 0) {
			if got := impl.TurnOf(c, who); got != turn {
				t.Errorf("TurnOf(%v, %d) = %d, want %d", c, who, got, turn)
			}
			if got := impl.TurnOf(c, -1-who); got != 0 {
				t.Errorf("TurnOf(%v, %d) = %d, want 0", c, -1-who, got)
			}
		}
	})
	for _, c := range validConfs() {
		for _, who := range sampleNumbers() {
			if got := impl.TurnOf(c, who); (got != 0) != (who >= 0 && who < len(c.Masters)) {
				t.Errorf("TurnOf(%v, %d) = %d", c, who, got)
			}
		}
	}
}

func TestInvalidConfsHaveNoTurns(t *testing.T) {
	for _, c := range badWrrConfs() {
		for who := -6; who <= 6; who++ {
			if got := impl.TurnOf(c, who); got != 0 {
				t.Errorf("TurnOf(%v, %d) = %d, want 0", c, who, got)
			}
		}
	}
}

func TestWrrOkExamples(t *testing.T) {
	c := wrrConf(2, 1, 4, 2)
	for _, x := range []struct {
		at, credit int
		want       bool
	}{
		{0, 0, true}, {0, 1, true}, {0, 2, true}, {0, 3, false}, {0, -1, false}, {0, 4, false}, {0, 8, false},
		{1, 0, true}, {1, 7, true}, {1, 8, true}, {1, 9, false}, {1, -1, false}, {1, math.MaxInt, false}, {1, math.MinInt, false}, {1, 1<<32 + 1, false},
		{2, 0, true}, {2, 4, true}, {2, 5, false}, {2, 8, false}, {2, -1, false},
		{3, 0, false}, {3, 1, false}, {-1, 0, false}, {-1, 1, false}, {4, 0, false}, {math.MaxInt, 0, false}, {math.MinInt, 0, false}, {1 << 32, 0, false}, {-3, 0, false},
	} {
		if got := impl.WrrOk(impl.Wrr{At: x.at, Credit: x.credit}, c); got != x.want {
			t.Errorf("WrrOk({%d %d}, %v) = %v", x.at, x.credit, c, got)
		}
	}
}

func TestWrrOkEverywhere(t *testing.T) {
	forEachWrrConf(func(c impl.Conf) {
		for at := -2; at <= 5; at++ {
			for credit := -2; credit <= 18; credit++ {
				w := impl.Wrr{At: at, Credit: credit}
				if got := impl.WrrOk(w, c); got != wantWrrOk(w, c) {
					t.Errorf("WrrOk(%v, %v) = %v", w, c, got)
				}
			}
		}
	})
	for _, c := range validConfs() {
		for _, w := range oddArbiters() {
			if got := impl.WrrOk(w, c); got != wantWrrOk(w, c) {
				t.Errorf("WrrOk(%v, %v) = %v", w, c, got)
			}
		}
	}
}

func TestWrrPickExamples(t *testing.T) {
	c := wrrConf(2, 1, 4, 2)
	yes, no := true, false
	for _, x := range []struct {
		w     impl.Wrr
		wants []bool
		want  impl.Wrr
		who   int
	}{
		{impl.Wrr{}, []bool{yes, yes, yes}, impl.Wrr{At: 1, Credit: 7}, 1},
		{impl.Wrr{Credit: 1}, []bool{yes, yes, yes}, impl.Wrr{}, 0},
		{impl.Wrr{Credit: 2}, []bool{yes, no, no}, impl.Wrr{Credit: 1}, 0},
		{impl.Wrr{Credit: 2}, []bool{no, yes, yes}, impl.Wrr{At: 1, Credit: 7}, 1},
		{impl.Wrr{Credit: 2}, []bool{no, no, yes}, impl.Wrr{At: 2, Credit: 3}, 2},
		{impl.Wrr{Credit: 2}, []bool{no, no, no}, impl.Wrr{}, -1},
		{impl.Wrr{}, []bool{yes, no, no}, impl.Wrr{Credit: 1}, 0},
		{impl.Wrr{}, []bool{yes, no, yes}, impl.Wrr{At: 2, Credit: 3}, 2},
		{impl.Wrr{At: 1, Credit: 8}, []bool{yes, yes, yes}, impl.Wrr{At: 1, Credit: 7}, 1},
		{impl.Wrr{At: 1, Credit: 8}, []bool{yes, no, yes}, impl.Wrr{At: 2, Credit: 3}, 2},
		{impl.Wrr{At: 1, Credit: 8}, []bool{yes, no, no}, impl.Wrr{Credit: 1}, 0},
		{impl.Wrr{At: 1}, []bool{yes, yes, no}, impl.Wrr{Credit: 1}, 0},
		{impl.Wrr{At: 1}, []bool{no, yes, no}, impl.Wrr{At: 1, Credit: 7}, 1},
		{impl.Wrr{At: 1}, []bool{no, no, no}, impl.Wrr{At: 1}, -1},
		{impl.Wrr{At: 2}, []bool{yes, yes, yes}, impl.Wrr{Credit: 1}, 0},
		{impl.Wrr{At: 2}, []bool{no, yes, yes}, impl.Wrr{At: 1, Credit: 7}, 1},
		{impl.Wrr{At: 2}, []bool{no, no, yes}, impl.Wrr{At: 2, Credit: 3}, 2},
		{impl.Wrr{At: 2, Credit: 1}, []bool{no, no, no}, impl.Wrr{At: 2}, -1},
		{impl.Wrr{At: 2, Credit: 1}, []bool{yes, yes, yes}, impl.Wrr{At: 2}, 2},
	} {
		checkPick(t, x.w, c, x.wants, x.want, x.who)
	}
	// A turn of one: no credit is left after it begins.
	checkPick(t, impl.Wrr{}, wrrConf(1, 1), []bool{yes}, impl.Wrr{}, 0)
	checkPick(t, impl.Wrr{Credit: 1}, wrrConf(1, 1), []bool{yes}, impl.Wrr{}, 0)
	checkPick(t, impl.Wrr{}, wrrConf(4, 4), []bool{yes}, impl.Wrr{Credit: 15}, 0)
}

// The masters are the ones to choose from, whether or not they have priority.
func TestWrrPickOfPriorityMasters(t *testing.T) {
	c, ok := impl.ReadConf("2 0 0 1 1 1:100:8 3 2:100:1")
	if !ok {
		t.Fatal("the configuration is invalid")
	}
	checkPick(t, impl.Wrr{}, c, []bool{true, true, true}, impl.Wrr{At: 1, Credit: 5}, 1)
	checkPick(t, impl.Wrr{At: 1}, c, []bool{true, true, true}, impl.Wrr{At: 2, Credit: 3}, 2)
	checkPick(t, impl.Wrr{At: 2}, c, []bool{true, true, true}, impl.Wrr{Credit: 1}, 0)
	checkPick(t, impl.Wrr{Credit: 1}, c, []bool{true, true, true}, impl.Wrr{}, 0)
}

func TestWrrPickEverywhere(t *testing.T) {
	forEachWrrConf(func(c impl.Conf) {
		forEachArbiter(c, func(w impl.Wrr) {
			forEachWants(len(c.Masters), func(wants []bool) {
				want, who := wantPick(w, c, wants)
				checkPick(t, w, c, wants, want, who)
			})
		})
	})
}

// The edge case of the stage: without a requesting master nothing is selected,
// the turn is over, and At stays where it is.
func TestNoRequestingMaster(t *testing.T) {
	forEachWrrConf(func(c impl.Conf) {
		none, all := repeated(false, len(c.Masters)), repeated(true, len(c.Masters))
		turns := wantTurns(c)
		forEachArbiter(c, func(w impl.Wrr) {
			rest := impl.Wrr{At: w.At}
			checkPick(t, w, c, none, rest, -1)
			checkPick(t, rest, c, none, rest, -1)
			next := (w.At + 1) % len(turns)
			checkPick(t, rest, c, all, impl.Wrr{At: next, Credit: turns[next] - 1}, next)
			if !impl.WrrOk(rest, c) {
				t.Errorf("WrrOk(%v, %v) is false", rest, c)
			}
		})
	})
}

// The credit that is lost does not come back, but the master that was At is
// the next one if it is the only one then.
func TestRequestsAfterACycleWithoutAny(t *testing.T) {
	c := wrrConf(1, 3, 2)
	w := impl.Wrr{}
	var got []int
	for _, wants := range [][]bool{{true, false}, {false, false}, {true, true}, {false, false}, {false, false}, {false, true}, {false, true}, {true, false}, {false, false}, {true, false}, {true, true}, {true, true}, {true, true}} {
		next, who := impl.WrrPick(w, c, wants)
		got = append(got, who)
		w = next
	}
	if want := []int{0, -1, 1, -1, -1, 1, 1, 0, -1, 0, 0, 0, 1}; !slices.Equal(got, want) || w != (impl.Wrr{At: 1, Credit: 1}) {
		t.Errorf("%v are selected, want %v; the arbiter is %v", got, want, w)
	}
}

// Without one element per master nothing changes, not even the credit.
func TestPickNeedsOneWantPerMaster(t *testing.T) {
	for _, c := range append(validConfs(), wrrConf(1, 1), wrrConf(4, 4, 4), wrrConf(2, 1, 2, 3)) {
		forEachArbiter(c, func(w impl.Wrr) {
			for count := range 20 {
				if count == len(c.Masters) {
					continue
				}
				checkPick(t, w, c, repeated(true, count), w, -1)
				checkPick(t, w, c, repeated(false, count), w, -1)
				// Elements in the unused capacity do not count.
				checkPick(t, w, c, repeated(true, 20)[:count], w, -1)
			}
			checkPick(t, w, c, nil, w, -1)
			checkPick(t, w, c, repeated(true, 100000), w, -1)
		})
	}
}

func TestInvalidArbitersAreKept(t *testing.T) {
	for _, c := range append(validConfs(), wrrConf(1, 1), wrrConf(4, 4), wrrConf(1, 1, 2), wrrConf(2, 3, 2, 1)) {
		for _, w := range oddArbiters() {
			if !wantWrrOk(w, c) {
				checkArbiterKept(t, w, c)
			}
		}
		for at, turn := range wantTurns(c) {
			checkArbiterKept(t, impl.Wrr{At: at, Credit: turn + 1}, c)
			checkArbiterKept(t, impl.Wrr{At: at, Credit: -1}, c)
		}
		checkArbiterKept(t, impl.Wrr{At: len(c.Masters)}, c)
		checkArbiterKept(t, impl.Wrr{At: -1}, c)
	}
}

func TestNoArbiterOfAnInvalidConfIsValid(t *testing.T) {
	for _, c := range badWrrConfs() {
		for _, w := range oddArbiters() {
			checkArbiterKept(t, w, c)
		}
	}
}

func TestWrrBackExamples(t *testing.T) {
	c := wrrConf(2, 1, 4, 2)
	for _, x := range []struct {
		w    impl.Wrr
		who  int
		want impl.Wrr
	}{
		{impl.Wrr{}, 0, impl.Wrr{Credit: 1}}, {impl.Wrr{Credit: 1}, 0, impl.Wrr{Credit: 2}}, {impl.Wrr{Credit: 2}, 0, impl.Wrr{Credit: 2}},
		{impl.Wrr{}, 1, impl.Wrr{}}, {impl.Wrr{}, -1, impl.Wrr{}}, {impl.Wrr{Credit: 1}, 2, impl.Wrr{Credit: 1}}, {impl.Wrr{Credit: 1}, 3, impl.Wrr{Credit: 1}},
		{impl.Wrr{At: 1, Credit: 7}, 1, impl.Wrr{At: 1, Credit: 8}}, {impl.Wrr{At: 1, Credit: 8}, 1, impl.Wrr{At: 1, Credit: 8}}, {impl.Wrr{At: 1, Credit: 7}, 0, impl.Wrr{At: 1, Credit: 7}}, {impl.Wrr{At: 1, Credit: 7}, 2, impl.Wrr{At: 1, Credit: 7}},
		{impl.Wrr{At: 2}, 2, impl.Wrr{At: 2, Credit: 1}}, {impl.Wrr{At: 2, Credit: 3}, 2, impl.Wrr{At: 2, Credit: 4}}, {impl.Wrr{At: 2, Credit: 4}, 2, impl.Wrr{At: 2, Credit: 4}},
		{impl.Wrr{At: 1, Credit: 1}, math.MinInt, impl.Wrr{At: 1, Credit: 1}}, {impl.Wrr{At: 1, Credit: 1}, 1<<32 + 1, impl.Wrr{At: 1, Credit: 1}},
	} {
		checkBack(t, x.w, c, x.who, x.want)
	}
}

func TestWrrBackEverywhere(t *testing.T) {
	forEachWrrConf(func(c impl.Conf) {
		turns := wantTurns(c)
		forEachArbiter(c, func(w impl.Wrr) {
			for who := -2; who <= 6; who++ {
				want := w
				if who == w.At {
					want.Credit = min(w.Credit+1, turns[who])
				}
				checkBack(t, w, c, who, want)
			}
		})
	})
}

// A selection that is taken back is made again, as if it had been made once.
// Within a turn the arbiter is the same as before.
func TestSelectionThatIsTakenBackIsMadeAgain(t *testing.T) {
	forEachWrrConf(func(c impl.Conf) {
		forEachArbiter(c, func(w impl.Wrr) {
			forEachWants(len(c.Masters), func(wants []bool) {
				picked, who := impl.WrrPick(w, c, wants)
				if who < 0 {
					return
				}
				back := impl.WrrBack(picked, c, who)
				if w.Credit > 0 && wants[w.At] && back != w {
					t.Errorf("%v becomes %v", w, back)
				}
				if !impl.WrrOk(picked, c) || !impl.WrrOk(back, c) {
					t.Errorf("%v becomes %v and then %v", w, picked, back)
				}
				checkPick(t, back, c, wants, picked, who)
			})
		})
	})
}

// picksOf returns the masters that are selected while all of them request the
// bus.
func picksOf(w impl.Wrr, c impl.Conf, count int) []int {
	var l []int
	for range count {
		next, who := impl.WrrPick(w, c, repeated(true, len(c.Masters)))
		l, w = append(l, who), next
	}
	return l
}

func countsOf(picks []int, masters int) []int {
	counts := make([]int, masters)
	for _, who := range picks {
		if who >= 0 && who < masters {
			counts[who]++
		}
	}
	return counts
}

func TestPicksWhileAllRequestExamples(t *testing.T) {
	for _, x := range []struct {
		c    impl.Conf
		w    impl.Wrr
		want []int
	}{
		{wrrConf(1, 1), impl.Wrr{}, []int{0, 0, 0, 0}},
		{wrrConf(1, 1, 1), impl.Wrr{}, []int{1, 0, 1, 0, 1}},
		{wrrConf(1, 1, 1, 1, 1), impl.Wrr{}, []int{1, 2, 3, 0, 1, 2, 3, 0, 1}},
		{wrrConf(1, 3, 1, 2), impl.Wrr{}, []int{1, 2, 2, 0, 0, 0, 1, 2, 2, 0, 0, 0, 1}},
		{wrrConf(2, 1, 2), impl.Wrr{At: 1, Credit: 3}, []int{1, 1, 1, 0, 0, 1, 1, 1, 1, 0, 0, 1}},
		{wrrConf(2, 1, 2), impl.Wrr{At: 1}, []int{0, 0, 1, 1, 1, 1, 0, 0, 1}},
		{wrrConf(4, 1, 1), impl.Wrr{Credit: 4}, []int{0, 0, 0, 0, 1, 1, 1, 1, 0}},
	} {
		if got := picksOf(x.w, x.c, len(x.want)); !slices.Equal(got, x.want) {
			t.Errorf("%v of %v selects %v, want %v", x.w, x.c, got, x.want)
		}
	}
}

// Promise 5: while all masters request the bus, each is served according to its
// weight. Any round, whenever it begins, serves each master for one turn.
func TestEachRoundServesEachMasterForItsTurn(t *testing.T) {
	forEachWrrConf(func(c impl.Conf) {
		turns := wantTurns(c)
		round := sumOf(turns)
		forEachArbiter(c, func(w impl.Wrr) {
			picks := picksOf(w, c, 2*round)
			for start := 0; start <= round; start += 1 + round/5 {
				if got := countsOf(picks[start:start+round], len(turns)); !slices.Equal(got, turns) {
					t.Errorf("%v of %v selects %v in a round from %d on, want %v", w, c, got, start, turns)
				}
			}
		})
	})
}

// The same for intervals of any length: the shares of two masters, divided by
// their weights, differ by no more than one turn.
func TestServiceFollowsTheWeightsInAnyInterval(t *testing.T) {
	for _, c := range append(validConfs(), wrrConf(1, 1, 4), wrrConf(4, 4, 1, 3), wrrConf(2, 1, 2, 3, 4), wrrConf(1, 1, 1, 1, 1), wrrConf(4, 4, 4, 4, 4)) {
		turns := wantTurns(c)
		forEachArbiter(c, func(w impl.Wrr) {
			counts := make([]int, len(turns))
			for _, who := range picksOf(w, c, 3*sumOf(turns)) {
				if who < 0 || who >= len(counts) {
					t.Fatalf("%v of %v selects %d", w, c, who)
				}
				counts[who]++
				for i, a := range c.Masters {
					for j, b := range c.Masters {
						if counts[i]*b.Weight-counts[j]*a.Weight > turns[i]*b.Weight {
							t.Fatalf("%v of %v selects %v", w, c, counts)
						}
					}
				}
			}
		})
	}
}

// The same if selections are taken back: what counts are those that stay.
func TestServiceFollowsTheWeightsIfSelectionsAreTakenBack(t *testing.T) {
	forEachWrrConf(func(c impl.Conf) {
		round := sumOf(wantTurns(c))
		w := impl.Wrr{}
		var kept []int
		for step := 0; len(kept) < 2*round && step < 6*round; step++ {
			next, who := impl.WrrPick(w, c, repeated(true, len(c.Masters)))
			if step%3 == 1 || step%7 == 2 {
				w = impl.WrrBack(next, c, who)
				continue
			}
			kept, w = append(kept, who), next
		}
		if want := picksOf(impl.Wrr{}, c, 2*round); !slices.Equal(kept, want) {
			t.Errorf("%v selects %v, want %v", c, kept, want)
		}
	})
}

// Whatever the others request, a master that keeps requesting the bus waits no
// longer than for one turn of each of the others, and then has a whole turn.
func TestNoMasterWaitsLongerThanTheOtherTurns(t *testing.T) {
	seed := uint32(1)
	random := func() int {
		seed = seed*1664525 + 1013904223
		return int(seed >> 16)
	}
	forEachWrrConf(func(c impl.Conf) {
		turns := wantTurns(c)
		for eager := range turns {
			w, waited, served := impl.Wrr{}, 0, 0
			for range 60 {
				bits := random() | 1<<eager
				wants := make([]bool, len(turns))
				for i := range wants {
					wants[i] = bits>>i&1 == 1
				}
				next, who := impl.WrrPick(w, c, wants)
				switch {
				case who < 0 || who >= len(wants) || !wants[who]:
					t.Fatalf("WrrPick(%v, %v, %v) = %v, %d", w, c, wants, next, who)
				case who == eager:
					waited, served = 0, served+1
				case served%turns[eager] != 0:
					t.Fatalf("%v selects %d before the turn of %d is over", c, who, eager)
				default:
					waited++
				}
				if waited > sumOf(turns)-turns[eager] {
					t.Fatalf("master %d of %v waits for %d others", eager, c, waited)
				}
				w = next
			}
		}
	})
}

// The arguments are compared after each call, since one call could undo what
// another one has done.
func TestWrrFunctionsKeepTheirArguments(t *testing.T) {
	masters := mastersOf("nnnpnn", 100)
	keptMasters := slices.Clone(masters)
	c := impl.Conf{Quantum: 2, MaxSplit: 1, LockMost: 1, Masters: masters[1:5]}
	for _, spare := range []bool{true, false} {
		wants := []bool{spare, false, true, true, false, spare, spare}
		keptWants := slices.Clone(wants)
		for i, call := range []func(){
			func() { checkPick(t, impl.Wrr{At: 2, Credit: 1}, c, wants[1:5], impl.Wrr{At: 2}, 2) },
			func() { checkPick(t, impl.Wrr{At: 0, Credit: 6}, c, wants[1:5], impl.Wrr{At: 1, Credit: 3}, 1) },
			func() { checkPick(t, impl.Wrr{At: 0, Credit: 6}, c, wants[1:4], impl.Wrr{At: 0, Credit: 6}, -1) },
			func() { checkPick(t, impl.Wrr{At: 0, Credit: 7}, c, wants[1:5], impl.Wrr{At: 0, Credit: 7}, -1) },
			func() { checkBack(t, impl.Wrr{At: 2, Credit: 1}, c, 2, impl.Wrr{At: 2, Credit: 2}) },
			func() { impl.TurnOf(c, 0) },
			func() { impl.WrrOk(impl.Wrr{At: 3, Credit: 8}, c) },
		} {
			call()
			if !slices.Equal(masters, keptMasters) || !slices.Equal(wants, keptWants) {
				t.Errorf("call %d changes its arguments or the capacity behind them", i)
			}
		}
	}
}
