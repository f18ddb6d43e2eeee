package tests

import (
	"math"
	"slices"
	"testing"

	"loop.example/g01623/impl"
)

// prioOf returns a priority master. Its weight depends on the other numbers,
// since a bucket does not depend on the weight.
func prioOf(every, capacity int) impl.MConf {
	return impl.MConf{Weight: (every ^ capacity) % 5, Prio: true, Every: every, Cap: capacity}
}

// forEachPrio calls f with small priority masters that can have a bucket, and
// with the largest ones.
func forEachPrio(f func(m impl.MConf)) {
	for _, every := range []int{1, 2, 3, 4, 5, 7, 16, 999, 1000, math.MaxInt} {
		for _, capacity := range []int{0, 1, 2, 3, 7, 8, 9, math.MaxInt} {
			f(prioOf(every, capacity))
		}
	}
}

// badPrios returns priority masters of which no bucket is valid.
func badPrios() []impl.MConf {
	var l []impl.MConf
	for _, bad := range []int{-1, -2, -8, -1000, math.MinInt, math.MinInt + 1, -(1 << 32) + 3} {
		l = append(l, prioOf(3, bad), prioOf(bad, 2), prioOf(bad, bad), prioOf(bad, 0), prioOf(bad, math.MaxInt))
	}
	return append(l, prioOf(0, 2), prioOf(0, 0), prioOf(0, -1), prioOf(0, math.MaxInt))
}

// otherMasters returns masters without priority, among them invalid ones with
// numbers that only a priority master has.
func otherMasters() []impl.MConf {
	return []impl.MConf{{}, {Weight: 1}, {Weight: 4}, {Weight: -1}, {Weight: 1, Every: 3, Cap: 2}, {Weight: 1, Every: 3}, {Weight: 1, Cap: 2}, {Weight: 1, Every: 1000, Cap: 8}, {Every: math.MaxInt, Cap: math.MaxInt}, {Weight: 1, Every: -1, Cap: -1}, {Every: math.MinInt, Cap: math.MinInt}}
}

// someBuckets returns buckets around the borders of a master's range, and far
// away from it.
func someBuckets(m impl.MConf) []impl.Bucket {
	var l []impl.Bucket
	for _, tokens := range []int{math.MinInt, -1 << 32, -2, -1, 0, 1, 2, 3, m.Cap / 2, m.Cap - 1, m.Cap, m.Cap + 1, math.MaxInt - 1, math.MaxInt} {
		for _, count := range []int{math.MinInt, -1 << 32, -2, -1, 0, 1, 2, 3, m.Every / 2, m.Every - 2, m.Every - 1, m.Every, m.Every + 1, math.MaxInt - 1, math.MaxInt} {
			l = append(l, impl.Bucket{Tokens: tokens, Count: count})
		}
	}
	return l
}

// wantBucketOk looks for what is wrong with a bucket.
func wantBucketOk(b impl.Bucket, m impl.MConf) bool {
	switch {
	case !m.Prio:
		return b.Tokens == 0 && b.Count == 0
	case b.Tokens < 0, b.Count < 0, b.Tokens > m.Cap, b.Count >= m.Every:
		return false
	}
	return true
}

func forEachGoodBucket(m impl.MConf, f func(b impl.Bucket)) {
	for _, b := range someBuckets(m) {
		if wantBucketOk(b, m) {
			f(b)
		}
	}
}

// wantTicks returns a valid bucket after k cycles in which nothing is taken.
// What has arrived follows from the time, without the cycles in between.
func wantTicks(b impl.Bucket, m impl.MConf, k int) impl.Bucket {
	free, time := uint64(m.Cap-b.Tokens), uint64(b.Count)+uint64(k)
	return impl.Bucket{Tokens: b.Tokens + int(min(free, time/uint64(m.Every))), Count: int(time % uint64(m.Every))}
}

func ticks(b impl.Bucket, m impl.MConf, k int) impl.Bucket {
	for range k {
		b = impl.BucketTick(b, m)
	}
	return b
}

// checkBucketKept checks that no function changes a bucket that must not be
// used.
func checkBucketKept(t *testing.T, b impl.Bucket, m impl.MConf) {
	t.Helper()
	if got := impl.BucketTick(b, m); got != b {
		t.Errorf("BucketTick(%v, %v) = %v", b, m, got)
	}
	if got, ok := impl.BucketTake(b, m); got != b || ok {
		t.Errorf("BucketTake(%v, %v) = %v, %v", b, m, got, ok)
	}
	if got := impl.BucketBack(b, m); got != b {
		t.Errorf("BucketBack(%v, %v) = %v", b, m, got)
	}
}

func checkTake(t *testing.T, b impl.Bucket, m impl.MConf, want impl.Bucket, wantOk bool) {
	t.Helper()
	if got, ok := impl.BucketTake(b, m); got != want || ok != wantOk {
		t.Errorf("BucketTake(%v, %v) = %v, %v, want %v, %v", b, m, got, ok, want, wantOk)
	}
}

func TestBucketOkExamples(t *testing.T) {
	for _, c := range []struct {
		tokens, count, every, cap int
		want                      bool
	}{
		{0, 0, 3, 2, true}, {2, 2, 3, 2, true}, {1, 1, 3, 2, true}, {2, 0, 3, 2, true}, {0, 2, 3, 2, true},
		{3, 0, 3, 2, false}, {0, 3, 3, 2, false}, {-1, 0, 3, 2, false}, {0, -1, 3, 2, false}, {3, 3, 3, 2, false}, {2, 3, 3, 2, false},
		{8, 999, 1000, 8, true}, {9, 999, 1000, 8, false}, {8, 1000, 1000, 8, false},
		{0, 0, 1, 0, true}, {1, 0, 1, 0, false}, {0, 1, 1, 0, false}, {0, 0, 0, 2, false}, {0, 0, 3, -1, false}, {0, -1, 0, 2, false}, {-1, 0, 3, -1, false},
		{0, 0, math.MinInt, 2, false}, {0, math.MaxInt, math.MinInt, 2, false}, {5, 5, math.MaxInt, math.MaxInt, true}, {math.MaxInt, math.MaxInt, math.MaxInt, math.MaxInt, false}, {math.MaxInt, math.MaxInt - 1, math.MaxInt, math.MaxInt, true},
	} {
		b, m := impl.Bucket{Tokens: c.tokens, Count: c.count}, impl.MConf{Weight: 1, Prio: true, Every: c.every, Cap: c.cap}
		if got := impl.BucketOk(b, m); got != c.want {
			t.Errorf("BucketOk(%v, %v) = %v", b, m, got)
		}
	}
}

func TestBucketOkEverywhere(t *testing.T) {
	check := func(b impl.Bucket, m impl.MConf) {
		if got := impl.BucketOk(b, m); got != wantBucketOk(b, m) {
			t.Errorf("BucketOk(%v, %v) = %v", b, m, got)
		}
	}
	for every := -2; every <= 6; every++ {
		for capacity := -2; capacity <= 6; capacity++ {
			for tokens := -3; tokens <= 8; tokens++ {
				for count := -3; count <= 8; count++ {
					m := prioOf(every, capacity)
					check(impl.Bucket{Tokens: tokens, Count: count}, m)
					m.Prio = false
					check(impl.Bucket{Tokens: tokens, Count: count}, m)
				}
			}
		}
	}
	forEachPrio(func(m impl.MConf) {
		for _, b := range someBuckets(m) {
			check(b, m)
		}
	})
	for _, m := range slices.Concat(badPrios(), otherMasters()) {
		for _, b := range someBuckets(m) {
			check(b, m)
		}
	}
}

func TestOtherMastersHaveTheZeroBucket(t *testing.T) {
	for _, m := range otherMasters() {
		if b := impl.BucketNew(m); b != (impl.Bucket{}) {
			t.Errorf("BucketNew(%v) = %v", m, b)
		}
		for _, b := range someBuckets(prioOf(3, 2)) {
			if got := impl.BucketOk(b, m); got != (b == impl.Bucket{}) {
				t.Errorf("BucketOk(%v, %v) = %v", b, m, got)
			}
			checkBucketKept(t, b, m)
		}
	}
}

// A new bucket has as many tokens as a priority master can have, whether or
// not the rest of the master is valid.
func TestBucketNew(t *testing.T) {
	for _, every := range append(sampleNumbers(), 3, 1000) {
		for _, capacity := range append(sampleNumbers(), 3, 5, 6, 9) {
			m := prioOf(every, capacity)
			want := impl.Bucket{Tokens: capacity}
			if capacity < 0 {
				want.Tokens = 0
			}
			if got := impl.BucketNew(m); got != want {
				t.Errorf("BucketNew(%v) = %v", m, got)
			}
			if got := impl.BucketOk(want, m); got != (every > 0 && capacity >= 0) {
				t.Errorf("BucketOk(%v, %v) = %v", want, m, got)
			}
		}
	}
}

func TestNewBucketsOfValidConfsAreValid(t *testing.T) {
	for _, c := range validConfs() {
		for _, m := range c.Masters {
			if b := impl.BucketNew(m); !impl.BucketOk(b, m) || b.Tokens != m.Cap || b.Count != 0 {
				t.Errorf("BucketNew(%v) = %v", m, b)
			}
		}
	}
}

func TestBucketTickExamples(t *testing.T) {
	for _, c := range []struct {
		b          impl.Bucket
		every, cap int
		want       impl.Bucket
	}{
		{impl.Bucket{}, 3, 2, impl.Bucket{Count: 1}},
		{impl.Bucket{Count: 1}, 3, 2, impl.Bucket{Count: 2}},
		{impl.Bucket{Count: 2}, 3, 2, impl.Bucket{Tokens: 1}},
		{impl.Bucket{Tokens: 1, Count: 2}, 3, 2, impl.Bucket{Tokens: 2}},
		{impl.Bucket{Tokens: 2, Count: 2}, 3, 2, impl.Bucket{Tokens: 2}},
		{impl.Bucket{Tokens: 2, Count: 1}, 3, 2, impl.Bucket{Tokens: 2, Count: 2}},
		{impl.Bucket{Tokens: 1}, 1, 2, impl.Bucket{Tokens: 2}},
		{impl.Bucket{Tokens: 2}, 1, 2, impl.Bucket{Tokens: 2}},
		{impl.Bucket{Tokens: 7, Count: 999}, 1000, 8, impl.Bucket{Tokens: 8}},
		{impl.Bucket{Tokens: 7, Count: 998}, 1000, 8, impl.Bucket{Tokens: 7, Count: 999}},
		{impl.Bucket{Count: 4}, 5, 0, impl.Bucket{}},
		{impl.Bucket{Tokens: math.MaxInt, Count: math.MaxInt - 1}, math.MaxInt, math.MaxInt, impl.Bucket{Tokens: math.MaxInt}},
	} {
		if got := impl.BucketTick(c.b, prioOf(c.every, c.cap)); got != c.want {
			t.Errorf("BucketTick(%v) with %d, %d = %v, want %v", c.b, c.every, c.cap, got, c.want)
		}
	}
}

func TestBucketTickManyTimes(t *testing.T) {
	forEachPrio(func(m impl.MConf) {
		forEachGoodBucket(m, func(b impl.Bucket) {
			for k, got := 0, b; k < 40; k++ {
				if want := wantTicks(b, m, k); got != want || !impl.BucketOk(got, m) {
					t.Fatalf("%v is %v after %d cycles with %v, want %v", b, got, k, m, want)
				}
				got = impl.BucketTick(got, m)
			}
		})
	})
	m := prioOf(1000, 8)
	if got := ticks(impl.Bucket{}, m, 7999); got != (impl.Bucket{Tokens: 7, Count: 999}) {
		t.Errorf("after 7999 cycles the bucket is %v", got)
	}
	if got := ticks(impl.Bucket{}, m, 12345); got != (impl.Bucket{Tokens: 8, Count: 345}) {
		t.Errorf("after 12345 cycles the bucket is %v", got)
	}
}

func TestBucketTakeAndBack(t *testing.T) {
	forEachPrio(func(m impl.MConf) {
		forEachGoodBucket(m, func(b impl.Bucket) {
			less, more := b, b
			if b.Tokens > 0 {
				less.Tokens--
			}
			if b.Tokens < m.Cap {
				more.Tokens++
			}
			checkTake(t, b, m, less, b.Tokens > 0)
			if got := impl.BucketBack(b, m); got != more {
				t.Errorf("BucketBack(%v, %v) = %v, want %v", b, m, got, more)
			}
			if got := impl.BucketBack(less, m); b.Tokens > 0 && got != b {
				t.Errorf("BucketBack(%v, %v) = %v, want %v", less, m, got, b)
			}
		})
	})
}

func TestEveryTokenCanBeTaken(t *testing.T) {
	for capacity := range 9 {
		m := prioOf(50, capacity)
		b := ticks(impl.BucketNew(m), m, 7)
		for left := capacity - 1; left >= 0; left-- {
			next, ok := impl.BucketTake(b, m)
			if want := (impl.Bucket{Tokens: left, Count: 7}); next != want || !ok {
				t.Errorf("BucketTake(%v, %v) = %v, %v", b, m, next, ok)
			}
			b = next
		}
		checkTake(t, b, m, impl.Bucket{Count: 7}, false)
		for range capacity + 2 {
			b = impl.BucketBack(b, m)
		}
		if b != (impl.Bucket{Tokens: capacity, Count: 7}) {
			t.Errorf("with all tokens back the bucket is %v", b)
		}
	}
}

func TestInvalidBucketsAreKept(t *testing.T) {
	forEachPrio(func(m impl.MConf) {
		for _, b := range someBuckets(m) {
			if !wantBucketOk(b, m) {
				checkBucketKept(t, b, m)
			}
		}
	})
	for _, m := range badPrios() {
		for _, b := range someBuckets(m) {
			checkBucketKept(t, b, m)
		}
		checkBucketKept(t, impl.BucketNew(m), m)
	}
}

// The edge case of the stage: a token that arrives can be taken in the same
// cycle, but not before, and only once.
func TestTokenThatArrivesInTheSameCycle(t *testing.T) {
	for _, every := range []int{1, 2, 3, 50, 1000} {
		for _, capacity := range []int{1, 2, 8} {
			m := prioOf(every, capacity)
			before := impl.Bucket{Count: every - 1}
			checkTake(t, before, m, before, false)
			arrived := impl.BucketTick(before, m)
			if arrived != (impl.Bucket{Tokens: 1}) {
				t.Errorf("BucketTick(%v, %v) = %v", before, m, arrived)
			}
			checkTake(t, arrived, m, impl.Bucket{}, true)
			checkTake(t, impl.Bucket{}, m, impl.Bucket{}, false)
			for k := 1; k < every; k++ {
				checkTake(t, ticks(impl.Bucket{}, m, k), m, impl.Bucket{Count: k}, false)
			}
			checkTake(t, ticks(impl.Bucket{}, m, every), m, impl.Bucket{}, true)
		}
	}
}

// A token that arrives at a full bucket is lost, even if another one is taken
// later in the cycle; one that is taken before leaves room for it.
func TestTokenThatArrivesAtAFullBucket(t *testing.T) {
	for _, every := range []int{1, 2, 50, 1000} {
		for _, capacity := range []int{1, 2, 8} {
			m := prioOf(every, capacity)
			full := impl.Bucket{Tokens: capacity, Count: every - 1}
			arrived := impl.BucketTick(full, m)
			if arrived != (impl.Bucket{Tokens: capacity}) {
				t.Errorf("BucketTick(%v, %v) = %v", full, m, arrived)
			}
			checkTake(t, arrived, m, impl.Bucket{Tokens: capacity - 1}, true)
			taken, _ := impl.BucketTake(full, m)
			if got := impl.BucketTick(taken, m); got != (impl.Bucket{Tokens: capacity}) {
				t.Errorf("BucketTick(%v, %v) = %v", taken, m, got)
			}
		}
	}
}

// A token that comes back in the cycle in which another one has arrived finds
// room only if the bucket had room for both.
func TestTokenThatComesBackInTheSameCycle(t *testing.T) {
	m := prioOf(3, 3)
	for tokens, want := range []int{2, 3, 3, 3} {
		b := impl.Bucket{Tokens: tokens, Count: 2}
		first := impl.BucketBack(impl.BucketTick(b, m), m)
		second := impl.BucketTick(impl.BucketBack(b, m), m)
		if first != (impl.Bucket{Tokens: want}) || second != first {
			t.Errorf("%v becomes %v or %v, want %d tokens", b, first, second, want)
		}
	}
	if got := impl.BucketBack(impl.BucketTick(impl.Bucket{Count: 2}, prioOf(3, 1)), prioOf(3, 1)); got.Tokens != 1 {
		t.Errorf("a bucket for one token is %v", got)
	}
}

func TestTokensMostExamples(t *testing.T) {
	for _, c := range []struct{ every, cap, n, want int }{
		{3, 2, 0, 3}, {3, 2, 1, 3}, {3, 2, 2, 3}, {3, 2, 3, 4}, {3, 2, 5, 4}, {3, 2, 6, 5}, {3, 2, 7, 5}, {3, 2, 4000, 1336},
		{1, 0, 0, 1}, {1, 0, 1, 2}, {1, 0, 4000, 4001}, {1, 8, 4000, 4009}, {1000, 8, 999, 9}, {1000, 8, 1000, 10}, {1000, 8, 4000, 13}, {1000, 1, 3999, 5},
		{4000, 5, 4000, 7}, {4000, 5, 3999, 6}, {4001, 5, 4000, 6}, {math.MaxInt, 5, 4000, 6}, {math.MaxInt, 0, 0, 1}, {math.MaxInt, math.MaxInt - 1, 4000, math.MaxInt}, {4, math.MaxInt - 1001, 4000, math.MaxInt},
		{3, 2, -1, 0}, {3, 2, 4001, 0}, {3, 2, math.MinInt, 0}, {3, 2, math.MaxInt, 0}, {0, 2, 7, 0}, {-1, 2, 7, 0}, {-3, 2, 7, 0}, {math.MinInt, 2, 7, 0},
		{3, -1, 7, 0}, {3, -2, 7, 0}, {1, -1, 4000, 0}, {3, math.MinInt, 7, 0}, {0, 0, 0, 0}, {-1, 2, 0, 0}, {3, -1, 0, 0},
	} {
		m := prioOf(c.every, c.cap)
		if got := impl.TokensMost(m, c.n); got != c.want {
			t.Errorf("TokensMost(%v, %d) = %d, want %d", m, c.n, got, c.want)
		}
		m.Prio = false
		if got := impl.TokensMost(m, c.n); got != 0 {
			t.Errorf("TokensMost(%v, %d) = %d, want 0", m, c.n, got)
		}
	}
}

// The bound grows by one in every cycle whose number is a multiple of Every.
func TestTokensMostEverywhere(t *testing.T) {
	for _, every := range []int{1, 2, 3, 5, 49, 50, 999, 1000, 3999, 4000, 4001} {
		for _, capacity := range []int{0, 1, 2, 8, 1000} {
			m, want := prioOf(every, capacity), capacity
			for n := range 4001 {
				if n%every == 0 {
					want++
				}
				if got := impl.TokensMost(m, n); got != want {
					t.Fatalf("TokensMost(%v, %d) = %d, want %d", m, n, got, want)
				}
			}
		}
	}
	for _, n := range sampleNumbers() {
		for _, m := range slices.Concat(badPrios(), otherMasters()) {
			if got := impl.TokensMost(m, n); got != 0 {
				t.Errorf("TokensMost(%v, %d) = %d, want 0", m, n, got)
			}
		}
		if got := impl.TokensMost(prioOf(3, 2), n); (got == 0) != (n < 0 || n > 4000) {
			t.Errorf("TokensMost(%d) = %d", n, got)
		}
	}
}

// Promise 5: no more tokens are taken than are available. The test counts them
// in long runs of mixed steps.
func TestNoMoreTokensAreTakenThanAvailable(t *testing.T) {
	seed := uint32(1)
	random := func(n int) int {
		seed = seed*1664525 + 1013904223
		return int(seed) * n >> 32
	}
	for _, m := range []impl.MConf{prioOf(1, 1), prioOf(1, 8), prioOf(2, 1), prioOf(3, 2), prioOf(5, 0), prioOf(7, 8), prioOf(50, 3)} {
		b := impl.BucketNew(m)
		available, time := m.Cap, 0
		for range 20000 {
			switch action := random(5); {
			case action < 2:
				b = impl.BucketTick(b, m)
				if time++; time%m.Every == 0 && available < m.Cap {
					available++
				}
			case action < 4:
				next, ok := impl.BucketTake(b, m)
				if ok != (available > 0) {
					t.Fatalf("BucketTake(%v, %v) = %v with %d available", b, m, ok, available)
				}
				if ok {
					available--
				}
				b = next
			case available < m.Cap:
				b = impl.BucketBack(b, m)
				available++
			}
			if b != (impl.Bucket{Tokens: available, Count: time % m.Every}) || !impl.BucketOk(b, m) {
				t.Fatalf("the bucket of %v is %v after %d cycles with %d available", m, b, time, available)
			}
		}
	}
}

// takeAll takes tokens until there are none, and returns how many there were.
func takeAll(b impl.Bucket, m impl.MConf) (impl.Bucket, int) {
	for n := 0; ; n++ {
		next, ok := impl.BucketTake(b, m)
		if !ok {
			return b, n
		}
		b = next
	}
}

// Promise 5: within n cycles no more than TokensMost are taken, whichever valid
// bucket there was before and however fast they are taken. The bound is at
// most one more than what can be taken.
func TestTokensMostIsABound(t *testing.T) {
	for _, m := range []impl.MConf{prioOf(1, 0), prioOf(1, 2), prioOf(2, 1), prioOf(3, 2), prioOf(7, 8), prioOf(50, 1), prioOf(51, 8)} {
		mostTaken := make([]int, 301)
		for start := range (m.Cap + 1) * m.Every {
			b, taken := takeAll(impl.Bucket{Tokens: start / m.Every, Count: start % m.Every}, m)
			for n := range mostTaken {
				mostTaken[n] = max(mostTaken[n], taken)
				next, more := takeAll(impl.BucketTick(b, m), m)
				b, taken = next, taken+more
			}
		}
		for n, taken := range mostTaken {
			if most := impl.TokensMost(m, n); taken > most || m.Cap > 0 && taken < most-1 {
				t.Errorf("%d tokens of %v are taken within %d cycles; TokensMost is %d", taken, m, n, most)
			}
		}
	}
}
