package tests

import (
	"encoding/binary"
	"math"
	"slices"
	"testing"

	"loop.example/g01623/impl"
)

// unlikeBytes returns a valid memory whose neighbouring bytes differ in most
// bits, so that a wrong place or order shows.
func unlikeBytes(length int) []int {
	l := make([]int, length)
	for i := range l {
		l[i] = (i*167 + 13) & 255
	}
	return l
}

// numbersOf returns numbers of a size, the least and the largest among them.
func numbersOf(size int) []int {
	return [][]int{
		{0, 1, 127, 128, 254, 255},
		{0, 1, 255, 256, 0x1234, 0x8000, 65534, 65535},
		{0, 1, 255, 256, 65535, 65536, 0x12345678, 0x80000000, 0xff00ff00, 1<<32 - 2, 1<<32 - 1},
	}[size]
}

// beyondLimit returns numbers that do not fit the size, the ones next to its
// limits first. The later ones have the low bits of a number that fits.
func beyondLimit(size int) []int {
	limit := []int{1 << 8, 1 << 16, 1 << 32}[size]
	return []int{-1, limit, limit + 1, -2, -limit, 1 - limit, 2 * limit, 1 << 40, 1<<40 + 7, math.MaxInt, math.MinInt, math.MinInt + 7}
}

// invalidMemories returns memories with a number that is no byte, first and
// last, and one that is too long.
func invalidMemories() [][]int {
	l := [][]int{make([]int, 513), make([]int, 514), make([]int, 2000)}
	for _, b := range []int{-1, 256, 257, -256, 1 << 32, math.MaxInt, math.MinInt} {
		for _, at := range []int{0, 7, 15} {
			mem := unlikeBytes(16)
			mem[at] = b
			l = append(l, mem)
		}
	}
	return l
}

// storedNumber reads a number with the standard library.
func storedNumber(mem []int, addr, size int) int {
	var word [8]byte
	for i := range []int{1, 2, 4}[size] {
		word[i] = byte(mem[addr+i])
	}
	return int(binary.LittleEndian.Uint64(word[:]))
}

// checkKept puts a number that must be refused, and checks that a copy of the
// memory comes back.
func checkKept(t *testing.T, mem []int, addr, size, v int) {
	t.Helper()
	before := slices.Clone(mem)
	got, ok := impl.PutNum(mem, addr, size, v)
	if ok || !slices.Equal(got, before) {
		t.Errorf("PutNum of %d numbers at (%d, %d) of %d = %v, %v", len(mem), addr, size, v, got, ok)
	}
	clear(got[:cap(got)])
	if !slices.Equal(mem, before) {
		t.Errorf("PutNum of %d numbers at (%d, %d) of %d shares or changes its argument", len(mem), addr, size, v)
	}
}

func checkNotRead(t *testing.T, mem []int, addr, size int) {
	t.Helper()
	if got, ok := impl.GetNum(mem, addr, size); got != 0 || ok {
		t.Errorf("GetNum of %d numbers at (%d, %d) = %d, %v, want none", len(mem), addr, size, got, ok)
	}
}

func TestLimitOfEachSize(t *testing.T) {
	limits := map[int]int{0: 256, 1: 65536, 2: 4294967296}
	otherNumbers(func(n int) {
		if got := impl.LimitOf(n); got != limits[n] {
			t.Errorf("LimitOf(%d) = %d, want %d", n, got, limits[n])
		}
	})
	for _, size := range invalidSizes() {
		if got := impl.LimitOf(size); got != 0 {
			t.Errorf("LimitOf(%d) = %d, want 0", size, got)
		}
	}
}

func TestGetNumExamples(t *testing.T) {
	mem := []int{1, 2, 3, 4, 255, 0, 255, 128}
	for _, c := range []struct{ addr, size, want int }{
		{0, 0, 1}, {3, 0, 4}, {4, 0, 255}, {7, 0, 128},
		{0, 1, 0x0201}, {2, 1, 0x0403}, {4, 1, 255}, {6, 1, 0x80ff},
		{0, 2, 0x04030201}, {4, 2, 0x80ff00ff},
	} {
		if got, ok := impl.GetNum(mem, c.addr, c.size); got != c.want || !ok {
			t.Errorf("GetNum(%d, %d) = %#x, %v, want %#x", c.addr, c.size, got, ok, c.want)
		}
	}
}

func TestGetNumEverywhere(t *testing.T) {
	mem := unlikeBytes(512)
	for size, bytes := range []int{1, 2, 4} {
		for addr := -70; addr < 600; addr++ {
			if addr < 0 || addr%bytes != 0 || addr+bytes > len(mem) {
				checkNotRead(t, mem, addr, size)
				continue
			}
			if got, ok := impl.GetNum(mem, addr, size); got != storedNumber(mem, addr, size) || !ok {
				t.Errorf("GetNum(%d, %d) = %#x, %v", addr, size, got, ok)
			}
		}
	}
	if !slices.Equal(mem, unlikeBytes(512)) {
		t.Error("GetNum changes its argument")
	}
}

// Only the bytes of the number have to be inside the memory, whose length is
// not always a multiple of them.
func TestNumbersFitInsideShortMemories(t *testing.T) {
	for length := range 14 {
		mem := unlikeBytes(length)
		for size, bytes := range []int{1, 2, 4} {
			for addr := range 16 {
				if addr%bytes != 0 || addr+bytes > length {
					checkNotRead(t, mem, addr, size)
					checkKept(t, mem, addr, size, 0)
					continue
				}
				if got, ok := impl.GetNum(mem, addr, size); got != storedNumber(mem, addr, size) || !ok {
					t.Errorf("GetNum of %d bytes at (%d, %d) = %#x, %v", length, addr, size, got, ok)
				}
				if got, ok := impl.PutNum(mem, addr, size, 0); len(got) != length || !ok {
					t.Errorf("PutNum of %d bytes at (%d, %d) = %v, %v", length, addr, size, got, ok)
				}
			}
		}
	}
}

func TestNoNumberInNoMemory(t *testing.T) {
	for size := range 3 {
		for _, mem := range [][]int{nil, {}} {
			checkNotRead(t, mem, 0, size)
			checkKept(t, mem, 0, size, 0)
		}
	}
}

func TestNumbersNeedAValidMemory(t *testing.T) {
	for _, mem := range invalidMemories() {
		for size := range 3 {
			for addr := range 16 {
				checkNotRead(t, mem, addr, size)
				checkKept(t, mem, addr, size, 1)
			}
		}
	}
	largest := slices.Repeat([]int{255}, 512)
	if got, ok := impl.GetNum(largest, 508, 2); got != 1<<32-1 || !ok {
		t.Errorf("GetNum at the end of the largest memory = %d, %v", got, ok)
	}
	if got, ok := impl.PutNum(largest, 508, 2, 0); !ok || len(got) != 512 || got[507] != 255 || got[508] != 0 || got[511] != 0 {
		t.Errorf("PutNum at the end of the largest memory = %v, %v", got, ok)
	}
}

func TestNumbersNeedAValidPlace(t *testing.T) {
	mem := unlikeBytes(512)
	for _, size := range invalidSizes() {
		for _, addr := range append(outsideAddrs(), 0, 1, 2, 4, 508, 511) {
			for _, v := range []int{0, 1, -1} {
				checkKept(t, mem, addr, size, v)
			}
			checkNotRead(t, mem, addr, size)
		}
	}
	for size := range 3 {
		for _, addr := range outsideAddrs() {
			checkNotRead(t, mem, addr, size)
			checkKept(t, mem, addr, size, 1)
		}
	}
}

func TestPutNumExamples(t *testing.T) {
	mem := []int{1, 2, 3, 4, 5, 6, 7, 8}
	for _, c := range []struct {
		addr, size, v int
		want          []int
	}{
		{4, 2, 258, []int{1, 2, 3, 4, 2, 1, 0, 0}}, {0, 2, 0xfffefdfc, []int{0xfc, 0xfd, 0xfe, 0xff, 5, 6, 7, 8}},
		{0, 1, 0x1234, []int{0x34, 0x12, 3, 4, 5, 6, 7, 8}}, {6, 1, 255, []int{1, 2, 3, 4, 5, 6, 255, 0}},
		{0, 0, 255, []int{255, 2, 3, 4, 5, 6, 7, 8}}, {5, 0, 0, []int{1, 2, 3, 4, 5, 0, 7, 8}}, {7, 0, 9, []int{1, 2, 3, 4, 5, 6, 7, 9}},
	} {
		if got, ok := impl.PutNum(mem, c.addr, c.size, c.v); !slices.Equal(got, c.want) || !ok {
			t.Errorf("PutNum(%d, %d, %#x) = %v, %v, want %v", c.addr, c.size, c.v, got, ok, c.want)
		}
	}
	if !slices.Equal(mem, []int{1, 2, 3, 4, 5, 6, 7, 8}) {
		t.Error("PutNum changes its argument")
	}
}

func TestPutNumOneBeyondTheLimit(t *testing.T) {
	mem := unlikeBytes(16)
	for size := range 3 {
		limit := impl.LimitOf(size)
		if got, ok := impl.PutNum(mem, 8, size, limit-1); !ok || storedNumber(got, 8, size) != limit-1 {
			t.Errorf("PutNum(8, %d, %d) = %v, %v", size, limit-1, got, ok)
		}
		for _, v := range beyondLimit(size) {
			checkKept(t, mem, 8, size, v)
		}
	}
}

// Promise 2: a number is read where it was written, and no adjacent byte
// changes.
func TestNumberIsReadWhereItWasWritten(t *testing.T) {
	mem := unlikeBytes(512)
	for size, bytes := range []int{1, 2, 4} {
		for addr := 0; addr < 512; addr += bytes {
			for _, v := range numbersOf(size) {
				got, ok := impl.PutNum(mem, addr, size, v)
				if !ok || len(got) != 512 {
					t.Fatalf("PutNum(%d, %d, %d) is refused", addr, size, v)
				}
				if back, ok := impl.GetNum(got, addr, size); back != v || !ok {
					t.Errorf("GetNum(%d, %d) = %d, %v, want %d", addr, size, back, ok, v)
				}
				if storedNumber(got, addr, size) != v {
					t.Errorf("PutNum(%d, %d, %d) stores %v", addr, size, v, got[addr:addr+bytes])
				}
				if !slices.Equal(got[:addr], mem[:addr]) || !slices.Equal(got[addr+bytes:], mem[addr+bytes:]) {
					t.Errorf("PutNum(%d, %d, %d) changes another byte", addr, size, v)
				}
			}
		}
	}
	if !slices.Equal(mem, unlikeBytes(512)) {
		t.Error("PutNum changes its argument")
	}
}

func TestPutNumIsNewMemory(t *testing.T) {
	whole := unlikeBytes(512)
	part := whole[8:16]
	got, ok := impl.PutNum(part, 4, 2, 0)
	if !ok || !slices.Equal(whole, unlikeBytes(512)) {
		t.Error("PutNum changes its argument or the capacity after it")
	}
	again, _ := impl.PutNum(part, 4, 2, 0)
	clear(got[:cap(got)])
	if !slices.Equal(whole, unlikeBytes(512)) || again[0] != part[0] {
		t.Error("the result shares memory with the argument or another result")
	}
	checkKept(t, part, 8, 0, 1)
	if !slices.Equal(whole, unlikeBytes(512)) {
		t.Error("a refused number changes the capacity after the argument")
	}
}

func TestStrobesExamples(t *testing.T) {
	for _, c := range []struct {
		addr, size int
		want       []bool
	}{
		{0, 0, []bool{true, false, false, false}}, {1, 0, []bool{false, true, false, false}},
		{2, 0, []bool{false, false, true, false}}, {3, 0, []bool{false, false, false, true}},
		{0, 1, []bool{true, true, false, false}}, {2, 1, []bool{false, false, true, true}}, {6, 1, []bool{false, false, true, true}},
		{0, 2, []bool{true, true, true, true}}, {508, 2, []bool{true, true, true, true}}, {511, 0, []bool{false, false, false, true}},
		{512, 0, []bool{true, false, false, false}}, {math.MaxInt, 0, []bool{false, false, false, true}}, // only alignment matters
		{math.MaxInt - 1, 1, []bool{false, false, true, true}}, {math.MaxInt - 3, 2, []bool{true, true, true, true}},
		{1, 1, nil}, {5, 1, nil}, {1, 2, nil}, {2, 2, nil}, {6, 2, nil}, {-1, 0, nil}, {-2, 1, nil}, {-4, 2, nil},
	} {
		if got := impl.Strobes(c.addr, c.size); !slices.Equal(got, c.want) {
			t.Errorf("Strobes(%d, %d) = %v, want %v", c.addr, c.size, got, c.want)
		}
	}
}

// A lane is used exactly if one of the transfer's bytes has this place in its
// word.
func TestStrobesEverywhere(t *testing.T) {
	for size, bytes := range []int{1, 2, 4} {
		for addr := -70; addr < 600; addr++ {
			var want []bool
			if addr >= 0 && addr%bytes == 0 {
				want = make([]bool, 4)
				for i := addr; i < addr+bytes; i++ {
					want[i&3] = true
				}
			}
			if got := impl.Strobes(addr, size); !slices.Equal(got, want) {
				t.Errorf("Strobes(%d, %d) = %v, want %v", addr, size, got, want)
			}
		}
	}
}

func TestNoStrobesForInvalidArguments(t *testing.T) {
	for _, size := range invalidSizes() {
		for _, addr := range append(outsideAddrs(), 0, 1, 2, 3, 4, 8) {
			if got := impl.Strobes(addr, size); len(got) != 0 {
				t.Errorf("Strobes(%d, %d) = %v, want none", addr, size, got)
			}
		}
	}
	for size := range 3 {
		for _, addr := range []int{-1, -2, -3, -4, -8, -64, math.MinInt, math.MinInt + 4} {
			if got := impl.Strobes(addr, size); len(got) != 0 {
				t.Errorf("Strobes(%d, %d) = %v, want none", addr, size, got)
			}
		}
	}
}

func TestStrobesAreNewMemory(t *testing.T) {
	a, b := impl.Strobes(0, 2), impl.Strobes(0, 2)
	clear(a[:cap(a)])
	if want := []bool{true, true, true, true}; !slices.Equal(b, want) || !slices.Equal(impl.Strobes(0, 2), want) {
		t.Error("two results share memory")
	}
}

func TestMergeExamples(t *testing.T) {
	for _, c := range []struct{ old, v, addr, size, want int }{
		{0x11223344, 0x99, 0, 0, 0x11223399}, {0x11223344, 0x99, 1, 0, 0x11229944},
		{0x11223344, 0x99, 2, 0, 0x11993344}, {0x11223344, 0x99, 3, 0, 0x99223344}, {0x11223344, 0, 7, 0, 0x00223344},
		{0x11223344, 0xaabb, 0, 1, 0x1122aabb}, {0x11223344, 0xaabb, 6, 1, 0xaabb3344}, {0xffffffff, 0, 2, 1, 0xffff},
		{0x11223344, 0xaabbccdd, 0, 2, 0xaabbccdd}, {0xffffffff, 0, 8, 2, 0}, {0, 0xffffffff, 508, 2, 0xffffffff},
		{0x11223344, 0x99, 512, 0, 0x11223399}, {0x11223344, 0x99, math.MaxInt, 0, 0x99223344}, // only alignment matters
	} {
		if got := impl.Merge(c.old, c.v, c.addr, c.size); got != c.want {
			t.Errorf("Merge(%#x, %#x, %d, %d) = %#x, want %#x", c.old, c.v, c.addr, c.size, got, c.want)
		}
	}
}

// The edge case of the stage: a lane that is not used keeps the byte that it
// had, whatever the byte and the number are, and a used one has the number's.
func TestMergeKeepsTheLanesThatAreNotUsed(t *testing.T) {
	for size := range 3 {
		for addr := range 12 {
			lanes := impl.Strobes(addr, size)
			if len(lanes) == 0 {
				continue
			}
			for _, old := range numbersOf(2) {
				for _, v := range numbersOf(size) {
					got, rest := impl.Merge(old, v, addr, size), v
					for i, used := range lanes {
						want := old >> (8 * i) & 255
						if used {
							want, rest = rest&255, rest>>8
						}
						if got>>(8*i)&255 != want {
							t.Errorf("Merge(%#x, %#x, %d, %d) = %#x, lane %d is not %#x", old, v, addr, size, got, i, want)
						}
					}
					if got>>32 != 0 || rest != 0 {
						t.Errorf("Merge(%#x, %#x, %d, %d) = %#x", old, v, addr, size, got)
					}
				}
			}
		}
	}
}

// The lanes are the bytes of a word in memory: storing a number there and
// merging it into the word is the same.
func TestMergeAgreesWithPutNum(t *testing.T) {
	mem := unlikeBytes(64)
	for size, bytes := range []int{1, 2, 4} {
		for addr := 0; addr < 64; addr += bytes {
			word := addr / 4 * 4
			old, _ := impl.GetNum(mem, word, 2)
			for _, v := range numbersOf(size) {
				next, _ := impl.PutNum(mem, addr, size, v)
				want, ok := impl.GetNum(next, word, 2)
				if got := impl.Merge(old, v, addr, size); got != want || !ok {
					t.Errorf("Merge(%#x, %#x, %d, %d) = %#x, but the memory has %#x", old, v, addr, size, got, want)
				}
			}
		}
	}
}

func checkNotMerged(t *testing.T, old, v, addr, size int) {
	t.Helper()
	if got := impl.Merge(old, v, addr, size); got != old {
		t.Errorf("Merge(%#x, %#x, %d, %d) = %#x, want the old number", old, v, addr, size, got)
	}
}

func TestMergeOfInvalidArguments(t *testing.T) {
	const old = 0x11223344
	for _, size := range invalidSizes() {
		for _, addr := range append(outsideAddrs(), 0, 1, 2, 3, 4, 8) {
			for _, v := range []int{0, 1, 255, -1} {
				checkNotMerged(t, old, v, addr, size)
			}
		}
	}
	for size := range 3 {
		for _, v := range beyondLimit(size) {
			for addr := range 8 {
				checkNotMerged(t, old, v, addr, size)
			}
		}
		for _, bad := range beyondLimit(2) {
			for addr := range 8 {
				checkNotMerged(t, bad, 1, addr, size)
			}
		}
		for _, addr := range []int{-1, -2, -3, -4, -8, math.MinInt, math.MinInt + 4} {
			checkNotMerged(t, old, 1, addr, size)
		}
	}
	for _, c := range [][2]int{{1, 1}, {3, 1}, {5, 1}, {1, 2}, {2, 2}, {3, 2}, {6, 2}, {math.MaxInt, 1}, {math.MaxInt - 1, 2}} {
		checkNotMerged(t, old, 1, c[0], c[1])
	}
}
