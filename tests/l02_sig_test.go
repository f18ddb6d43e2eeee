package tests

import (
	"math"
	"testing"

	"loop.example/g01623/impl"
)

// invalidSizes returns sizes that no transfer has, the ones next to the limits
// first. The later ones are those for which a shift or an index would fail or
// wrap around.
func invalidSizes() []int {
	return []int{-1, 3, -2, 4, 5, 7, 8, 31, 32, 62, 63, 64, 65, -63, -64, 256, -256,
		1 << 32, -(1 << 32), 1<<32 + 2, math.MaxInt, math.MinInt, math.MinInt + 2}
}

// otherNumbers calls f with the numbers around the words' ones, and with many
// far from them, among which are some that have the same low bits.
func otherNumbers(f func(n int)) {
	for n := -300; n <= 300; n++ {
		f(n)
	}
	for _, n := range sampleNumbers() {
		f(n)
		f(n | 1)
		f(n | 2)
		f(n | 3)
	}
}

func TestSignalNumbers(t *testing.T) {
	got := [7]int{impl.TrIdle, impl.TrFirst, impl.TrNext, impl.ReOkay, impl.ReError, impl.ReRetry, impl.ReSplit}
	if want := [7]int{0, 2, 3, 0, 1, 2, 3}; got != want {
		t.Errorf("the signals are %v, want %v", got, want)
	}
}

func TestKindWordNamesEachKind(t *testing.T) {
	words := map[int]string{impl.TrIdle: "idle", impl.TrFirst: "first", impl.TrNext: "next"}
	otherNumbers(func(n int) {
		if got := impl.KindWord(n); got != words[n] {
			t.Errorf("KindWord(%d) = %q, want %q", n, got, words[n])
		}
	})
}

func TestRespWordNamesEachResponse(t *testing.T) {
	words := map[int]string{impl.ReOkay: "okay", impl.ReError: "error", impl.ReRetry: "retry", impl.ReSplit: "split"}
	otherNumbers(func(n int) {
		if got := impl.RespWord(n); got != words[n] {
			t.Errorf("RespWord(%d) = %q, want %q", n, got, words[n])
		}
	})
}

func TestBytesOfEachSize(t *testing.T) {
	sizes := map[int]int{0: 1, 1: 2, 2: 4}
	otherNumbers(func(n int) {
		if got := impl.BytesOf(n); got != sizes[n] {
			t.Errorf("BytesOf(%d) = %d, want %d", n, got, sizes[n])
		}
	})
}

func TestBytesOfInvalidSize(t *testing.T) {
	for _, size := range invalidSizes() {
		if got := impl.BytesOf(size); got != 0 {
			t.Errorf("BytesOf(%d) = %d, want 0", size, got)
		}
	}
}

func TestAlignedExamples(t *testing.T) {
	for _, c := range []struct {
		addr, size int
		want       bool
	}{
		{0, 0, true}, {1, 0, true}, {511, 0, true},
		{0, 1, true}, {1, 1, false}, {2, 1, true}, {3, 1, false}, {6, 1, true},
		{0, 2, true}, {1, 2, false}, {2, 2, false}, {3, 2, false}, {4, 2, true}, {6, 2, false}, {8, 2, true},
		{512, 2, true}, {514, 1, true}, // no upper limit is a matter of alignment
		{math.MaxInt, 0, true}, {math.MaxInt, 1, false}, {math.MaxInt - 1, 1, true}, {math.MaxInt - 1, 2, false}, {math.MaxInt - 3, 2, true},
	} {
		if got := impl.Aligned(c.addr, c.size); got != c.want {
			t.Errorf("Aligned(%d, %d) = %v, want %v", c.addr, c.size, got, c.want)
		}
	}
}

// The multiples are counted up, so that no division is repeated here.
func TestAlignedAddressesAreTheMultiples(t *testing.T) {
	for size, bytes := range []int{1, 2, 4} {
		next := 0
		for addr := range 2 * impl.Space {
			want := addr == next
			if want {
				next += bytes
			}
			if got := impl.Aligned(addr, size); got != want {
				t.Errorf("Aligned(%d, %d) = %v, want %v", addr, size, got, want)
			}
		}
	}
}

func TestAlignedNegativeAddress(t *testing.T) {
	for size := range 3 {
		for addr := -64; addr < 0; addr++ {
			if impl.Aligned(addr, size) {
				t.Errorf("Aligned(%d, %d) is true", addr, size)
			}
		}
		for _, addr := range []int{math.MinInt, math.MinInt + 4, -(1 << 32), -4096} {
			if impl.Aligned(addr, size) {
				t.Errorf("Aligned(%d, %d) is true", addr, size)
			}
		}
	}
}

func TestAlignedInvalidSize(t *testing.T) {
	for _, size := range invalidSizes() {
		for _, addr := range []int{0, 1, 2, 4, 8, 64, 1 << 31, 1 << 32, 1 << 62, math.MaxInt, -1, -4, -8, math.MinInt} {
			if impl.Aligned(addr, size) {
				t.Errorf("Aligned(%d, %d) is true", addr, size)
			}
		}
	}
}

// Promise 2 rests on this: the aligned transfers of a size cover every byte of
// the space exactly once, and none of them leaves its page.
func TestAlignedTransfersShareNoByte(t *testing.T) {
	for size := range 3 {
		var users [impl.Space]int
		for addr := range impl.Space {
			if !impl.Aligned(addr, size) {
				continue
			}
			last := addr + impl.BytesOf(size) - 1
			if addr/impl.Page != last/impl.Page {
				t.Errorf("the transfer of size %d at %d ends at %d, in another page", size, addr, last)
			}
			for i := addr; i <= last; i++ {
				users[i]++
			}
		}
		for i, n := range users {
			if n != 1 {
				t.Errorf("%d transfers of size %d use byte %d", n, size, i)
			}
		}
	}
}
