package tests

import (
	"math"
	"slices"
	"testing"

	"loop.example/g01623/impl"
)

func allBursts() []int {
	return []int{impl.BuOne, impl.BuFour, impl.BuWrap, impl.BuEight}
}

// invalidBursts returns numbers that no burst has, the ones next to the limits
// first. The later ones have the low bits of a burst.
func invalidBursts() []int {
	return []int{-1, 4, -2, 5, 7, 8, 64, 256, -256, 1 << 32, 1<<32 + 1, 1<<32 + 2, -(1 << 32),
		math.MaxInt, math.MinInt, math.MinInt + 1, math.MinInt + 2, math.MinInt + 3}
}

// outsideAddrs returns addresses at which no beat of any size can be. The ones
// that are not negative are aligned, so that only the space excludes them, and
// the largest are those for which an addition would wrap around.
func outsideAddrs() []int {
	return []int{-1, -2, -4, -8, -16, -64, -512, math.MinInt, math.MinInt + 4, -(1 << 32),
		512, 516, 520, 528, 576, 1024, 1 << 32, 1<<32 + 8, math.MaxInt - 3, math.MaxInt - 15}
}

// forEachStart calls f with every size, every burst and every address around
// the space.
func forEachStart(f func(addr, size, burst int)) {
	for size := range 3 {
		for _, burst := range allBursts() {
			for addr := -70; addr < impl.Space+70; addr++ {
				f(addr, size, burst)
			}
		}
	}
}

// wantAddrs computes every address from the first one alone, as an offset in
// the block of four beats for a wrapping burst, and not beat by beat.
func wantAddrs(addr, size, burst int) []int {
	beats := map[int]int{impl.BuOne: 1, impl.BuFour: 4, impl.BuWrap: 4, impl.BuEight: 8}[burst]
	bytes := []int{1, 2, 4}[size]
	if addr < 0 || addr%bytes != 0 {
		return nil
	}
	var l []int
	for i := range beats {
		a := addr + i*bytes
		if burst == impl.BuWrap {
			start := addr &^ (4*bytes - 1)
			a = start + (addr-start+i*bytes)&(4*bytes-1)
		}
		if a > 511 {
			return nil
		}
		l = append(l, a)
	}
	return l
}

func TestBurstNumbers(t *testing.T) {
	got := [6]int{impl.BuOne, impl.BuFour, impl.BuWrap, impl.BuEight, impl.Page, impl.Space}
	if want := [6]int{0, 1, 2, 3, 64, 512}; got != want {
		t.Errorf("the bursts, the page and the space are %v, want %v", got, want)
	}
}

func TestBeatsOfEachBurst(t *testing.T) {
	beats := map[int]int{0: 1, 1: 4, 2: 4, 3: 8}
	otherNumbers(func(n int) {
		if got := impl.BeatsOf(n); got != beats[n] {
			t.Errorf("BeatsOf(%d) = %d, want %d", n, got, beats[n])
		}
	})
	for _, n := range invalidBursts() {
		if got := impl.BeatsOf(n); got != 0 {
			t.Errorf("BeatsOf(%d) = %d, want 0", n, got)
		}
	}
}

func TestNextAddrExamples(t *testing.T) {
	for _, c := range []struct{ addr, size, burst, want int }{
		{0, 0, impl.BuOne, 1}, {0, 1, impl.BuFour, 2}, {0, 2, impl.BuEight, 4},
		{3, 0, impl.BuWrap, 0}, {4, 0, impl.BuWrap, 5}, {7, 0, impl.BuWrap, 4}, {7, 0, impl.BuFour, 8},
		{6, 1, impl.BuWrap, 0}, {2, 1, impl.BuWrap, 4}, {14, 1, impl.BuWrap, 8}, {14, 1, impl.BuEight, 16},
		{12, 2, impl.BuWrap, 0}, {4, 2, impl.BuWrap, 8}, {28, 2, impl.BuWrap, 16}, {12, 2, impl.BuOne, 16},
		{60, 2, impl.BuFour, 64}, {60, 2, impl.BuWrap, 48}, {63, 0, impl.BuOne, 64}, {62, 1, impl.BuWrap, 56}, // the page is no limit here
		{508, 2, impl.BuOne, 512}, {508, 2, impl.BuEight, 512}, {508, 2, impl.BuWrap, 496}, {511, 0, impl.BuFour, 512}, {511, 0, impl.BuWrap, 508}, {510, 1, impl.BuOne, 512},
		{512, 0, impl.BuOne, -1}, {512, 2, impl.BuWrap, -1}, {513, 0, impl.BuOne, -1},
		{1, 1, impl.BuOne, -1}, {2, 2, impl.BuWrap, -1}, {5, 2, impl.BuFour, -1}, {510, 2, impl.BuOne, -1},
		{-1, 0, impl.BuOne, -1}, {-4, 2, impl.BuWrap, -1}, {0, 3, impl.BuOne, -1}, {0, 2, 4, -1}, {0, 2, -1, -1},
	} {
		if got := impl.NextAddr(c.addr, c.size, c.burst); got != c.want {
			t.Errorf("NextAddr(%d, %d, %d) = %d, want %d", c.addr, c.size, c.burst, got, c.want)
		}
	}
}

func TestNextAddrEverywhere(t *testing.T) {
	forEachStart(func(addr, size, burst int) {
		bytes := []int{1, 2, 4}[size]
		want := -1
		if addr >= 0 && addr < 512 && addr%bytes == 0 {
			want = addr + bytes
			if burst == impl.BuWrap {
				want = wantAddrs(addr, size, burst)[1]
			}
		}
		if got := impl.NextAddr(addr, size, burst); got != want {
			t.Errorf("NextAddr(%d, %d, %d) = %d, want %d", addr, size, burst, got, want)
		}
	})
}

func TestBurstAddrsExamples(t *testing.T) {
	for _, c := range []struct {
		addr, size, burst int
		want              []int
	}{
		{8, 2, impl.BuWrap, []int{8, 12, 0, 4}}, // the document's example
		{0, 2, impl.BuWrap, []int{0, 4, 8, 12}}, {12, 2, impl.BuWrap, []int{12, 0, 4, 8}},
		{5, 0, impl.BuWrap, []int{5, 6, 7, 4}}, {10, 1, impl.BuWrap, []int{10, 12, 14, 8}},
		{3, 0, impl.BuOne, []int{3}}, {3, 0, impl.BuFour, []int{3, 4, 5, 6}}, {6, 1, impl.BuFour, []int{6, 8, 10, 12}},
		{4, 2, impl.BuEight, []int{4, 8, 12, 16, 20, 24, 28, 32}}, {1, 0, impl.BuEight, []int{1, 2, 3, 4, 5, 6, 7, 8}},
		{60, 2, impl.BuFour, []int{60, 64, 68, 72}}, {60, 2, impl.BuEight, []int{60, 64, 68, 72, 76, 80, 84, 88}},
		{508, 2, impl.BuOne, []int{508}}, {496, 2, impl.BuFour, []int{496, 500, 504, 508}}, {500, 2, impl.BuFour, nil},
		{480, 2, impl.BuEight, []int{480, 484, 488, 492, 496, 500, 504, 508}}, {484, 2, impl.BuEight, nil},
		{508, 2, impl.BuWrap, []int{508, 496, 500, 504}}, {508, 0, impl.BuFour, []int{508, 509, 510, 511}}, {509, 0, impl.BuFour, nil},
		{512, 2, impl.BuOne, nil}, {512, 0, impl.BuWrap, nil}, {2, 2, impl.BuOne, nil}, {1, 1, impl.BuWrap, nil}, {-4, 2, impl.BuOne, nil},
	} {
		if got := impl.BurstAddrs(c.addr, c.size, c.burst); !slices.Equal(got, c.want) {
			t.Errorf("BurstAddrs(%d, %d, %d) = %v, want %v", c.addr, c.size, c.burst, got, c.want)
		}
	}
}

func TestBurstAddrsEverywhere(t *testing.T) {
	forEachStart(func(addr, size, burst int) {
		want := wantAddrs(addr, size, burst)
		if got := impl.BurstAddrs(addr, size, burst); !slices.Equal(got, want) {
			t.Errorf("BurstAddrs(%d, %d, %d) = %v, want %v", addr, size, burst, got, want)
		}
	})
}

func TestBurstAddrsFollowNextAddr(t *testing.T) {
	forEachStart(func(addr, size, burst int) {
		l := impl.BurstAddrs(addr, size, burst)
		if len(l) == 0 {
			return
		}
		if len(l) != impl.BeatsOf(burst) || l[0] != addr {
			t.Errorf("BurstAddrs(%d, %d, %d) = %v", addr, size, burst, l)
		}
		for i, a := range l {
			next := impl.NextAddr(a, size, burst)
			if next == -1 || i+1 < len(l) && l[i+1] != next {
				t.Errorf("BurstAddrs(%d, %d, %d) = %v, but NextAddr(%d) = %d", addr, size, burst, l, a, next)
			}
		}
	})
}

func TestBurstAddrsAreNewMemory(t *testing.T) {
	a := impl.BurstAddrs(8, 2, impl.BuEight)
	b := impl.BurstAddrs(8, 2, impl.BuEight)
	clear(a[:cap(a)])
	if want := wantAddrs(8, 2, impl.BuEight); !slices.Equal(b, want) || !slices.Equal(impl.BurstAddrs(8, 2, impl.BuEight), want) {
		t.Error("two results share memory")
	}
}

func TestBurstOkExamples(t *testing.T) {
	for _, c := range []struct {
		addr, size, burst int
		want              bool
	}{
		{0, 0, impl.BuOne, true}, {3, 0, impl.BuOne, true}, {8, 2, impl.BuWrap, true}, {8, 2, impl.BuFour, true},
		{32, 2, impl.BuEight, true}, {36, 2, impl.BuEight, false}, {48, 1, impl.BuEight, true}, {50, 1, impl.BuEight, false},
		{56, 0, impl.BuEight, true}, {57, 0, impl.BuEight, false}, {60, 0, impl.BuFour, true}, {61, 0, impl.BuFour, false},
		{48, 2, impl.BuFour, true}, {52, 2, impl.BuFour, false}, {64, 2, impl.BuEight, true}, {480, 2, impl.BuEight, true},
		{484, 2, impl.BuEight, false}, {2, 2, impl.BuOne, false}, {1, 1, impl.BuOne, false}, {512, 0, impl.BuOne, false}, {-4, 2, impl.BuOne, false},
	} {
		if got := impl.BurstOk(c.addr, c.size, c.burst); got != c.want {
			t.Errorf("BurstOk(%d, %d, %d) = %v, want %v", c.addr, c.size, c.burst, got, c.want)
		}
	}
}

// The edge case of the stage: only a burst of one beat and a wrapping one can
// start in the last word of a page, and in the last page the others have no
// addresses at all.
func TestBurstsFromTheLastWordOfAPage(t *testing.T) {
	for page := range impl.Space / impl.Page {
		last := impl.Page*page + impl.Page - 4
		want := map[int]bool{impl.BuOne: true, impl.BuWrap: true}
		for _, burst := range allBursts() {
			if got := impl.BurstOk(last, 2, burst); got != want[burst] {
				t.Errorf("BurstOk(%d, 2, %d) = %v, want %v", last, burst, got, want[burst])
			}
		}
		if got := impl.NextAddr(last, 2, impl.BuOne); got != last+4 {
			t.Errorf("NextAddr(%d, 2, BuOne) = %d, want the next page", last, got)
		}
		if got, want := impl.BurstAddrs(last, 2, impl.BuWrap), []int{last, last - 12, last - 8, last - 4}; !slices.Equal(got, want) {
			t.Errorf("BurstAddrs(%d, 2, BuWrap) = %v, want %v", last, got, want)
		}
		for _, burst := range []int{impl.BuFour, impl.BuEight} {
			if got := len(impl.BurstAddrs(last, 2, burst)); (got == 0) != (last == impl.Space-4) {
				t.Errorf("BurstAddrs(%d, 2, %d) has %d elements", last, burst, got)
			}
		}
	}
}

// The bursts that end in the last transfer of a page are the last valid ones.
func TestBurstsThatEndAPage(t *testing.T) {
	for size := range 3 {
		bytes := 1 << size
		for _, burst := range []int{impl.BuOne, impl.BuFour, impl.BuEight} {
			for end := impl.Page; end <= impl.Space; end += impl.Page {
				start := end - impl.BeatsOf(burst)*bytes
				if !impl.BurstOk(start, size, burst) {
					t.Errorf("BurstOk(%d, %d, %d) is false", start, size, burst)
				}
				later := start + bytes
				if want := burst == impl.BuOne && later < impl.Space; impl.BurstOk(later, size, burst) != want {
					t.Errorf("BurstOk(%d, %d, %d) = %v", later, size, burst, !want)
				}
			}
		}
	}
}

func TestBurstOkEverywhere(t *testing.T) {
	forEachStart(func(addr, size, burst int) {
		l := wantAddrs(addr, size, burst)
		want := len(l) > 0 && slices.Min(l)>>6 == slices.Max(l)>>6
		if got := impl.BurstOk(addr, size, burst); got != want {
			t.Errorf("BurstOk(%d, %d, %d) = %v, want %v", addr, size, burst, got, want)
		}
	})
}

func checkNoBurst(t *testing.T, addr, size, burst int) {
	t.Helper()
	if got := impl.NextAddr(addr, size, burst); got != -1 {
		t.Errorf("NextAddr(%d, %d, %d) = %d, want -1", addr, size, burst, got)
	}
	if got := impl.BurstAddrs(addr, size, burst); len(got) != 0 {
		t.Errorf("BurstAddrs(%d, %d, %d) = %v, want none", addr, size, burst, got)
	}
	if impl.BurstOk(addr, size, burst) {
		t.Errorf("BurstOk(%d, %d, %d) is true", addr, size, burst)
	}
}

func TestNoBurstForInvalidArguments(t *testing.T) {
	sizes := append(invalidSizes(), 0, 1, 2)
	bursts := append(invalidBursts(), allBursts()...)
	addrs := append(outsideAddrs(), 0, 4, 8, 12, 60, 64, 508)
	for _, addr := range addrs {
		for _, burst := range bursts {
			for _, size := range invalidSizes() {
				checkNoBurst(t, addr, size, burst)
			}
		}
		for _, burst := range invalidBursts() {
			for size := range 3 {
				checkNoBurst(t, addr, size, burst)
			}
		}
	}
	for _, addr := range outsideAddrs() {
		for _, size := range sizes {
			for _, burst := range bursts {
				checkNoBurst(t, addr, size, burst)
			}
		}
	}
}

// Promise 2: all bytes of all beats are in the page of the first one, which is
// in the space, and no two beats of a burst share a byte.
func TestAllBeatsAreInOnePage(t *testing.T) {
	found := 0
	forEachStart(func(addr, size, burst int) {
		if !impl.BurstOk(addr, size, burst) {
			return
		}
		found++
		var used [impl.Page]bool
		start := addr / impl.Page * impl.Page
		for _, a := range impl.BurstAddrs(addr, size, burst) {
			for i := a; i < a+impl.BytesOf(size); i++ {
				if i < start || i >= start+impl.Page || i < 0 || i >= impl.Space {
					t.Fatalf("a beat of (%d, %d, %d) uses byte %d", addr, size, burst, i)
				}
				if used[i-start] {
					t.Errorf("two beats of (%d, %d, %d) use byte %d", addr, size, burst, i)
				}
				used[i-start] = true
			}
		}
	})
	// Each page has one start per transfer for the bursts that cannot leave
	// it, and 3 or 7 fewer for the others.
	want := impl.Space / impl.Page * (64 + 32 + 16) * 4
	want -= impl.Space / impl.Page * 3 * (3 + 7)
	if found != want {
		t.Errorf("%d bursts are valid, want %d", found, want)
	}
}
