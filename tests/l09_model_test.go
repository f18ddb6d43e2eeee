package tests

import (
	"math"
	"slices"
	"testing"

	"loop.example/g01623/impl"
)

// modelOf returns a valid model whose numbers differ from their neighbours,
// with so many elements in its device's FIFO.
func modelOf(fifo int) impl.Model {
	return impl.Model{Mem: unlikeBytes(192), Dev: devOf(fifo)}
}

// validModels returns models with the smallest and the largest bytes, and with
// all kinds of devices.
func validModels() []impl.Model {
	l := []impl.Model{{Mem: make([]int, 192), Dev: impl.DevNew()}}
	for _, d := range validDevs() {
		l = append(l, impl.Model{Mem: unlikeBytes(192), Dev: d}, impl.Model{Mem: slices.Repeat([]int{255}, 192), Dev: d})
	}
	return l
}

// invalidModels returns models with too few or too many bytes, with a number
// that is no byte at each border of the memory, and with an invalid device.
func invalidModels() []impl.Model {
	l := []impl.Model{{}, {Dev: devOf(2)}, {Mem: unlikeBytes(192)}}
	for _, length := range []int{0, 1, 64, 127, 128, 129, 188, 190, 191, 193, 194, 196, 224, 256, 512, 513} {
		l = append(l, impl.Model{Mem: unlikeBytes(length), Dev: devOf(2)})
	}
	for _, b := range []int{-1, 256, 257, -256, 1 << 32, math.MaxInt, math.MinInt} {
		for _, at := range []int{0, 1, 127, 128, 190, 191} {
			m := modelOf(2)
			m.Mem[at] = b
			l = append(l, m)
		}
	}
	for _, d := range invalidDevs() {
		l = append(l, impl.Model{Mem: unlikeBytes(192), Dev: d})
	}
	return l
}

func cloneModel(m impl.Model) impl.Model {
	return impl.Model{Mem: slices.Clone(m.Mem), Dev: cloneDev(m.Dev)}
}

// sameModelFields compares models without the program.
func sameModelFields(a, b impl.Model) bool {
	return slices.Equal(a.Mem, b.Mem) && sameDevFields(a.Dev, b.Dev)
}

// clearModel overwrites all lists of a model and the capacity after them.
func clearModel(m impl.Model) {
	for _, list := range [][]int{m.Mem, m.Dev.Regs, m.Dev.Fifo} {
		clear(list[:cap(list)])
	}
}

// wantModelDo executes one beat of a valid model, with the limits of the
// memory written out and byte by byte.
func wantModelDo(m impl.Model, write bool, addr, size, v int) (impl.Model, int, int) {
	next := cloneModel(m)
	if size < 0 || size > 2 {
		return next, 0, 1
	}
	bytes := []int{1, 2, 4}[size]
	if addr < 0 || addr%bytes != 0 || write && (v < 0 || v >= []int{1 << 8, 1 << 16, 1 << 32}[size]) {
		return next, 0, 1
	}
	if addr >= 192 {
		d, n, ok := wantDevDo(next.Dev, write, addr-192, v)
		if addr > 223 || size != 2 || !ok {
			return next, 0, 1
		}
		return impl.Model{Mem: next.Mem, Dev: d}, n, 0
	}
	if !write {
		return next, storedNumber(m.Mem, addr, size), 0
	}
	for i, rest := 0, v; i < bytes; i++ {
		next.Mem[addr+i] = rest % 256
		rest /= 256
	}
	return next, v, 0
}

// checkModelDo compares one beat of a valid model with wantModelDo, and
// returns the model after it.
func checkModelDo(t *testing.T, m impl.Model, write bool, addr, size, v int) impl.Model {
	t.Helper()
	kept := cloneModel(m)
	want, wantN, wantResp := wantModelDo(m, write, addr, size, v)
	got, n, resp := impl.ModelDo(m, write, addr, size, v)
	if !sameModelFields(got, want) || n != wantN || resp != wantResp {
		t.Errorf("ModelDo(%v, %v, %d, %d, %d) = %v, %d, %d, want %v, %d, %d", kept, write, addr, size, v, got, n, resp, want, wantN, wantResp)
	}
	if !sameModelFields(m, kept) {
		t.Errorf("ModelDo(%v, %v, %d, %d, %d) has changed its argument to %v", kept, write, addr, size, v, m)
	}
	return got
}

// checkModelKept executes a beat that must fail, and checks that a copy of the
// model comes back.
func checkModelKept(t *testing.T, m impl.Model, write bool, addr, size, v int) {
	t.Helper()
	kept := cloneModel(m)
	got, n, resp := impl.ModelDo(m, write, addr, size, v)
	if !sameModelFields(got, kept) || n != 0 || resp != 1 {
		t.Errorf("ModelDo(%v, %v, %d, %d, %d) = %v, %d, %d", kept, write, addr, size, v, got, n, resp)
	}
	clearModel(got)
	if !sameModelFields(m, kept) {
		t.Errorf("ModelDo(%v, %v, %d, %d, %d) shares or changes its argument", kept, write, addr, size, v)
	}
}

// farAddrs returns addresses without a slave, among them ones that have the
// low bits of an address of the memory or of the device.
func farAddrs() []int {
	l := append(outsideAddrs(), 224, 228, 252, 256, 320, 384, 448, 508, -192, -188, -256, -(1<<32)+192)
	for _, high := range []int{1 << 9, 1 << 16, 1 << 32, 1 << 62, math.MinInt, math.MinInt + 1<<32} {
		for _, low := range []int{0, 4, 124, 128, 188, 192, 196, 208, 212} {
			l = append(l, high+low)
		}
	}
	return l
}

func TestModelNumbers(t *testing.T) {
	got := [7]int{impl.RamEnd, impl.SplitEnd, impl.DevEnd, impl.SlRam, impl.SlSplit, impl.SlDev, impl.SlNone}
	if want := [7]int{128, 192, 224, 1, 2, 3, 0}; got != want {
		t.Errorf("the numbers of the model are %v, want %v", got, want)
	}
}

func TestSlaveOfExamples(t *testing.T) {
	for addr, want := range map[int]int{
		-1: 0, 0: 1, 1: 1, 64: 1, 126: 1, 127: 1, 128: 2, 129: 2, 190: 2, 191: 2, 192: 3, 193: 3,
		212: 3, 216: 3, 222: 3, 223: 3, 224: 0, 225: 0, 256: 0, 511: 0, 512: 0, math.MaxInt: 0, math.MinInt: 0,
	} {
		if got := impl.SlaveOf(addr); got != want {
			t.Errorf("SlaveOf(%d) = %d, want %d", addr, got, want)
		}
	}
}

// The slaves have four, two and one blocks of 32 addresses.
func TestSlaveOfEverywhere(t *testing.T) {
	blocks := map[int]int{0: 1, 1: 1, 2: 1, 3: 1, 4: 2, 5: 2, 6: 3}
	check := func(addr int) {
		if got := impl.SlaveOf(addr); got != blocks[addr>>5] {
			t.Errorf("SlaveOf(%d) = %d, want %d", addr, got, blocks[addr>>5])
		}
	}
	otherNumbers(check)
	for _, addr := range farAddrs() {
		check(addr)
		if got := impl.SlaveOf(addr); got != 0 {
			t.Errorf("SlaveOf(%d) = %d, want none", addr, got)
		}
	}
}

func TestModelNew(t *testing.T) {
	want := impl.Model{Mem: make([]int, 192), Dev: impl.Dev{Regs: make([]int, 4)}}
	m := impl.ModelNew()
	if !sameModelFields(m, want) || !impl.ModelOk(m) {
		t.Errorf("ModelNew() = %v", m)
	}
	for i := range m.Mem {
		m.Mem[i] = 1
	}
	for i := range m.Dev.Regs {
		m.Dev.Regs[i] = 1
	}
	if n := impl.ModelNew(); !sameModelFields(n, want) {
		t.Errorf("ModelNew() = %v after a change of its last result", n)
	}
}

// No two lists of a new model share memory.
func TestModelNewHasSeparateLists(t *testing.T) {
	m := impl.ModelNew()
	for _, list := range [][]int{m.Mem, m.Dev.Regs} {
		list = list[:cap(list)]
		for i := range list {
			list[i]++
		}
	}
	if slices.Max(m.Mem) != 1 || slices.Max(m.Dev.Regs) != 1 {
		t.Errorf("the lists of a new model share memory: %v", m)
	}
}

func TestModelOkOfValidModels(t *testing.T) {
	for _, m := range validModels() {
		if !impl.ModelOk(m) {
			t.Errorf("ModelOk(%v) is false", m)
		}
	}
	for at := range 192 {
		for _, b := range []int{0, 1, 128, 254, 255} {
			m := modelOf(4)
			m.Mem[at] = b
			if !impl.ModelOk(m) {
				t.Errorf("ModelOk is false with %d at %d", b, at)
			}
		}
	}
}

func TestModelOkOfInvalidModels(t *testing.T) {
	for _, m := range invalidModels() {
		if impl.ModelOk(m) {
			t.Errorf("ModelOk(%v) is true", m)
		}
	}
	for at := range 192 {
		for _, b := range []int{-1, 256} {
			m := modelOf(4)
			m.Mem[at] = b
			if impl.ModelOk(m) {
				t.Errorf("ModelOk is true with %d at %d", b, at)
			}
		}
	}
}

func TestModelDoExamples(t *testing.T) {
	m := impl.Model{Mem: make([]int, 192), Dev: impl.Dev{Regs: []int{10, 11, 12, 13}, Timer: 14, Fifo: []int{15, 16}}}
	copy(m.Mem[124:], []int{1, 2, 3, 4, 5, 6, 7, 8}) // on both sides of RamEnd
	for _, c := range []struct {
		addr, size, n, resp int
	}{
		{124, 0, 1, 0}, {127, 0, 4, 0}, {128, 0, 5, 0}, {131, 0, 8, 0}, {132, 0, 0, 0},
		{124, 1, 0x0201, 0}, {126, 1, 0x0403, 0}, {128, 1, 0x0605, 0}, {124, 2, 0x04030201, 0}, {128, 2, 0x08070605, 0},
		{192, 2, 10, 0}, {196, 2, 11, 0}, {200, 2, 12, 0}, {204, 2, 13, 0}, {208, 2, 14, 0}, {212, 2, 15, 0},
		{127, 1, 0, 1}, {126, 2, 0, 1}, {124, 3, 0, 1}, {124, -1, 0, 1}, {192, 0, 0, 1}, {192, 1, 0, 1}, {194, 2, 0, 1},
		{216, 2, 0, 1}, {220, 2, 0, 1}, {224, 2, 0, 1}, {-4, 2, 0, 1}, {508, 2, 0, 1},
	} {
		if _, n, resp := impl.ModelDo(m, false, c.addr, c.size, 0); n != c.n || resp != c.resp {
			t.Errorf("reading (%d, %d) = %#x, %d, want %#x, %d", c.addr, c.size, n, resp, c.n, c.resp)
		}
	}
	for _, c := range []struct {
		addr, size, v int
		want          []int
	}{
		{124, 0, 255, []int{255, 2, 3, 4, 5, 6, 7, 8}}, {127, 0, 0, []int{1, 2, 3, 0, 5, 6, 7, 8}}, {128, 0, 99, []int{1, 2, 3, 4, 99, 6, 7, 8}},
		{126, 1, 0x1234, []int{1, 2, 0x34, 0x12, 5, 6, 7, 8}}, {130, 1, 513, []int{1, 2, 3, 4, 5, 6, 1, 2}},
		{124, 2, 0xfffefdfc, []int{0xfc, 0xfd, 0xfe, 0xff, 5, 6, 7, 8}}, {128, 2, 258, []int{1, 2, 3, 4, 2, 1, 0, 0}},
	} {
		got, n, resp := impl.ModelDo(m, true, c.addr, c.size, c.v)
		if n != c.v || resp != 0 || !slices.Equal(got.Mem[124:132], c.want) || !sameDevFields(got.Dev, m.Dev) {
			t.Errorf("writing %#x to (%d, %d) = %v, %d, %d", c.v, c.addr, c.size, got, n, resp)
		}
	}
	for i, addr := range []int{192, 196, 200, 204} {
		got, n, resp := impl.ModelDo(m, true, addr, 2, 99)
		if n != 99 || resp != 0 || got.Dev.Regs[i] != 99 || !slices.Equal(got.Mem, m.Mem) {
			t.Errorf("writing 99 to %d = %v, %d, %d", addr, got, n, resp)
		}
	}
}

func TestModelDoEverywhere(t *testing.T) {
	for _, m := range []impl.Model{modelOf(0), modelOf(2), modelOf(4)} {
		for size := -1; size <= 3; size++ {
			for addr := -40; addr <= 300; addr++ {
				for _, v := range []int{0, 1, 0xa5, 255, 256, 0x1234, 65535, 65536, 0x89abcdef, 1<<32 - 1, 1 << 32, -1} {
					checkModelDo(t, m, true, addr, size, v)
				}
				checkModelDo(t, m, false, addr, size, 0)
			}
		}
	}
}

func TestModelDoOfEachNumber(t *testing.T) {
	for _, m := range validModels() {
		for size := range 3 {
			for _, addr := range []int{0, 4, 60, 124, 128, 132, 188, 192, 204, 208, 212, 216, 220, 224} {
				for _, v := range append(numbersOf(size), beyondLimit(size)...) {
					next := checkModelDo(t, m, true, addr, size, v)
					checkModelDo(t, next, false, addr, size, 0)
				}
			}
		}
	}
}

// The edge case of the stage: the last byte of memory is the last one of each
// size, and what comes after it belongs to the device.
func TestLastByteOfMemory(t *testing.T) {
	for size, addr := range []int{191, 190, 188} {
		for _, v := range numbersOf(size) {
			m := modelOf(2)
			next, n, resp := impl.ModelDo(m, true, addr, size, v)
			if n != v || resp != 0 || !slices.Equal(next.Mem[:addr], m.Mem[:addr]) || !sameDevFields(next.Dev, m.Dev) {
				t.Errorf("writing %#x to (%d, %d) = %v, %d, %d", v, addr, size, next, n, resp)
			}
			if len(next.Mem) != 192 || storedNumber(next.Mem, addr, size) != v || next.Mem[191] != v>>(8*(191-addr)) {
				t.Errorf("writing %#x to (%d, %d) stores %v", v, addr, size, next.Mem[addr:])
			}
			if back, n, resp := impl.ModelDo(next, false, addr, size, 0); n != v || resp != 0 || !sameModelFields(back, next) {
				t.Errorf("reading (%d, %d) = %v, %d, %d, want %#x", addr, size, back, n, resp, v)
			}
		}
	}
	for _, c := range []struct{ addr, size int }{{191, 1}, {191, 2}, {190, 2}, {189, 1}, {189, 2}, {192, 0}, {192, 1}, {191, 3}, {188, 3}} {
		for _, v := range []int{0, 1, 255} {
			checkModelKept(t, modelOf(2), true, c.addr, c.size, v)
			checkModelKept(t, modelOf(2), false, c.addr, c.size, v)
		}
	}
}

// The last byte does not depend on the capacity after the memory.
func TestLastByteOfMemoryWithCapacityLeft(t *testing.T) {
	whole := unlikeBytes(256)
	m := impl.Model{Mem: whole[:192], Dev: devOf(4)}
	for size, addr := range []int{191, 190, 188} {
		next := checkModelDo(t, m, true, addr, size, 0)
		checkModelDo(t, next, false, addr, size, 0)
		next = checkModelDo(t, m, true, 192, size, 0)
		checkModelDo(t, next, false, 192, size, 0)
	}
	if !slices.Equal(whole, unlikeBytes(256)) {
		t.Errorf("the memory or the capacity after it has become %v", whole)
	}
}

// The two slaves of the memory meet at RamEnd, where no number is in both.
func TestMemoryBetweenItsSlaves(t *testing.T) {
	for size, bytes := range []int{1, 2, 4} {
		for _, addr := range []int{128 - bytes, 128} {
			for _, v := range numbersOf(size) {
				next := checkModelDo(t, modelOf(1), true, addr, size, v)
				checkModelDo(t, next, false, addr, size, v)
				checkModelDo(t, next, false, 256-bytes-addr, size, v)
			}
		}
	}
}

func TestModelNeedsASlave(t *testing.T) {
	for _, addr := range farAddrs() {
		for size := range 3 {
			checkModelKept(t, modelOf(2), true, addr, size, 1)
			checkModelKept(t, modelOf(2), false, addr, size, 1)
		}
	}
	for addr := 224; addr < 600; addr++ {
		checkModelKept(t, modelOf(2), true, addr, 0, 1)
		checkModelKept(t, modelOf(2), false, addr/4*4, 2, 1)
	}
}

func TestModelNeedsAValidSize(t *testing.T) {
	for _, size := range invalidSizes() {
		for _, addr := range []int{0, 1, 4, 8, 64, 127, 128, 188, 191, 192, 196, 208, 212, 216, 224, -1} {
			for _, v := range []int{0, 1, -1} {
				checkModelKept(t, modelOf(2), true, addr, size, v)
				checkModelKept(t, modelOf(2), false, addr, size, v)
			}
		}
	}
}

func TestModelNeedsAnAlignedAddress(t *testing.T) {
	for addr := range 224 {
		if addr%2 != 0 {
			checkModelKept(t, modelOf(2), true, addr, 1, 1)
			checkModelKept(t, modelOf(2), false, addr, 1, 0)
		}
		if addr%4 != 0 {
			checkModelKept(t, modelOf(2), true, addr, 2, 1)
			checkModelKept(t, modelOf(2), false, addr, 2, 0)
		}
	}
}

// The device has only words, even where a byte or a half of one would be
// aligned and the number would fit.
func TestModelsDeviceNeedsWords(t *testing.T) {
	for addr := 192; addr < 224; addr++ {
		for size := range 2 {
			for fifo := range 5 {
				checkModelKept(t, modelOf(fifo), true, addr, size, 1)
				checkModelKept(t, modelOf(fifo), false, addr, size, 1)
			}
		}
	}
	for _, addr := range []int{216, 220} {
		checkModelKept(t, modelOf(2), true, addr, 2, 1)
		checkModelKept(t, modelOf(2), false, addr, 2, 1)
	}
}

func TestModelWritesOneBeyondTheLimit(t *testing.T) {
	for size := range 3 {
		for _, v := range beyondLimit(size) {
			for _, addr := range []int{0, 64, 124, 128, 188, 192, 204, 208, 212, 216, 224} {
				checkModelKept(t, modelOf(2), true, addr, size, v)
			}
		}
	}
	for _, v := range beyondLimit(0) {
		checkModelKept(t, modelOf(2), true, 191, 0, v)
	}
}

// What a read is given as its number does not matter.
func TestModelReadsIgnoreTheNumber(t *testing.T) {
	for size := range 3 {
		for _, v := range append(beyondLimit(size), sampleNumbers()...) {
			for _, addr := range []int{0, 124, 128, 188, 192, 208, 212} {
				checkModelDo(t, modelOf(2), false, addr, size, v)
			}
		}
	}
}

// A FIFO that is full or empty answers with an error, as does the offset after
// it.
func TestModelsFifo(t *testing.T) {
	m := impl.ModelNew()
	checkModelKept(t, m, false, 212, 2, 0)
	for i := range 4 {
		m = checkModelDo(t, m, true, 212, 2, 50+i)
	}
	checkModelKept(t, m, true, 212, 2, 54)
	checkModelKept(t, m, true, 216, 2, 54)
	for i := range 4 {
		next, n, resp := impl.ModelDo(m, false, 212, 2, 0)
		if n != 50+i || resp != 0 || len(next.Dev.Fifo) != 3-i {
			t.Errorf("reading the FIFO = %v, %d, %d, want %d", next.Dev, n, resp, 50+i)
		}
		m = next
	}
	checkModelKept(t, m, false, 212, 2, 0)
}

// The timer is the only word that a read increments.
func TestModelsTimer(t *testing.T) {
	m := checkModelDo(t, modelOf(1), true, 208, 2, 4294967294)
	for _, want := range []int{4294967294, 4294967295, 0, 1} {
		for _, addr := range []int{0, 128, 188, 192, 196, 200, 204} {
			m = checkModelDo(t, m, false, addr, 2, 0)
		}
		checkModelKept(t, m, false, 208, 1, 0)
		next, n, resp := impl.ModelDo(m, false, 208, 2, 0)
		if n != want || resp != 0 || !slices.Equal(next.Mem, m.Mem) {
			t.Errorf("the timer is %d, %d, want %d", n, resp, want)
		}
		m = next
	}
}

func TestInvalidModelsAreKept(t *testing.T) {
	for _, m := range invalidModels() {
		for _, addr := range []int{0, 124, 128, 188, 191, 192, 208, 212, 216, 224, -4, math.MaxInt, math.MinInt} {
			for _, size := range []int{0, 2, 3, -1} {
				checkModelKept(t, m, true, addr, size, 1)
				checkModelKept(t, m, false, addr, size, 0)
			}
		}
	}
}

// plainModel keeps what was written last in bytes and in words of 32 bits.
type plainModel struct {
	mem   [192]byte
	regs  [4]uint32
	timer uint32
	queue []int
}

// do executes one beat at an aligned address, and reports whether it succeeds.
func (p *plainModel) do(write bool, addr, size, v int) (int, bool) {
	bytes := []int{1, 2, 4}[size]
	switch {
	case write && (v < 0 || v >= 1<<(8*bytes)) || addr >= 192 && size != 2 || addr >= 216:
		return 0, false
	case addr >= 192:
		return p.doDevice(write, addr-192, v)
	case write:
		for i := range bytes {
			p.mem[addr+i] = byte(v >> (8 * i))
		}
		return v, true
	}
	n := 0
	for i := range bytes {
		n += int(p.mem[addr+i]) << (8 * i)
	}
	return n, true
}

func (p *plainModel) doDevice(write bool, at, v int) (int, bool) {
	switch {
	case at < 16 && write:
		p.regs[at/4] = uint32(v)
	case at < 16:
		v = int(p.regs[at/4])
	case at == 16 && write:
		p.timer = uint32(v)
	case at == 16:
		v = int(p.timer)
		p.timer++
	case write && len(p.queue) < 4:
		p.queue = append(p.queue, v)
	case !write && len(p.queue) > 0:
		v, p.queue = p.queue[0], p.queue[1:]
	default:
		return 0, false
	}
	return v, true
}

func (p *plainModel) model() impl.Model {
	m := impl.Model{Dev: impl.Dev{Timer: int(p.timer), Fifo: p.queue}}
	for _, b := range p.mem {
		m.Mem = append(m.Mem, int(b))
	}
	for _, r := range p.regs {
		m.Dev.Regs = append(m.Dev.Regs, int(r))
	}
	return m
}

// Promise 4: the memory and the device return what was written last, and an
// error changes nothing. The test keeps its own bytes and words in a long run
// of mixed beats.
func TestModelReturnsWhatWasWrittenLast(t *testing.T) {
	seed := uint32(1)
	random := func(n int) int {
		seed = seed*1664525 + 1013904223
		return int(seed) * n >> 32
	}
	var plain plainModel
	m := impl.ModelNew()
	for range 20000 {
		write, size, addr := random(2) == 0, random(3), random(240)
		if random(4) == 0 {
			size, addr = 2, 192+random(32)
		}
		bytes := 1 << size
		addr, v := addr/bytes*bytes, random(1<<(8*bytes-2))*5-bytes
		wantN, ok := plain.do(write, addr, size, v)
		next, n, resp := impl.ModelDo(m, write, addr, size, v)
		if n != wantN || (resp == 0) != ok || resp != 0 && resp != 1 {
			t.Fatalf("ModelDo(%v, %v, %d, %d, %d) = %d, %d, want %d, %v", m, write, addr, size, v, n, resp, wantN, ok)
		}
		if !ok && !sameModelFields(next, m) {
			t.Fatalf("an error changes %v to %v", m, next)
		}
		if want := plain.model(); !sameModelFields(next, want) || !impl.ModelOk(next) {
			t.Fatalf("the model is %v, want %v", next, want)
		}
		m = next
	}
}

// beatsOfEachKind calls f with beats that the slaves execute and with beats
// that fail, as reads and as writes.
func beatsOfEachKind(f func(write bool, addr, size, v int)) {
	for _, addr := range []int{0, 124, 128, 188, 191, 192, 204, 208, 212, 216, 224, -4} {
		for size := -1; size <= 3; size++ {
			for _, v := range []int{0, 77, -1} {
				f(true, addr, size, v)
				f(false, addr, size, v)
			}
		}
	}
}

// No two lists of a model share memory after a beat, even if the lists of its
// device did before, and neither do the results of two beats.
func TestModelDoIsNewMemory(t *testing.T) {
	list := []int{1, 2, 3, 4}
	shared := impl.Model{Mem: unlikeBytes(192), Dev: impl.Dev{Regs: list, Timer: 5, Fifo: list}}
	beatsOfEachKind(func(write bool, addr, size, v int) {
		want, _, _ := wantModelDo(shared, write, addr, size, v)
		a := checkModelDo(t, shared, write, addr, size, v)
		b := checkModelDo(t, shared, write, addr, size, v)
		clear(a.Mem[:cap(a.Mem)])
		if !sameDevFields(a.Dev, want.Dev) {
			t.Errorf("at (%d, %d), the memory and the device of one result share memory", addr, size)
		}
		clear(a.Dev.Regs[:cap(a.Dev.Regs)])
		if !slices.Equal(a.Dev.Fifo, want.Dev.Fifo) {
			t.Errorf("at (%d, %d), two lists of one device share memory", addr, size)
		}
		clearModel(a)
		if !sameModelFields(b, want) || !slices.Equal(list, []int{1, 2, 3, 4}) || !slices.Equal(shared.Mem, unlikeBytes(192)) {
			t.Errorf("at (%d, %d), a result shares memory with the argument or another result", addr, size)
		}
	})
}

func TestModelFunctionsKeepTheirArguments(t *testing.T) {
	whole := unlikeBytes(220)
	m := impl.Model{Mem: whole[2:194], Dev: impl.Dev{Regs: whole[196:200], Timer: 7, Fifo: whole[200:202]}}
	if !impl.ModelOk(m) || !impl.SameModel(m, cloneModel(m)) {
		t.Error(m)
	}
	beatsOfEachKind(func(write bool, addr, size, v int) {
		next, _, _ := impl.ModelDo(m, write, addr, size, v)
		clearModel(next)
		if !slices.Equal(whole, unlikeBytes(220)) {
			t.Fatalf("a beat at (%d, %d) changes the argument or the capacity after it: %v", addr, size, whole)
		}
	})
}

func TestSameModelComparesEachField(t *testing.T) {
	a := modelOf(2)
	b := impl.Model{Mem: append(make([]int, 0, 999), a.Mem...), Dev: cloneDev(a.Dev)}
	if !impl.SameModel(a, a) || !impl.SameModel(a, b) || !impl.SameModel(b, a) {
		t.Error("equal models differ")
	}
	changes := []func(m *impl.Model){
		func(m *impl.Model) { slices.Reverse(m.Mem) },
		func(m *impl.Model) { m.Mem = m.Mem[:191] },
		func(m *impl.Model) { m.Mem = append(m.Mem, 0) },
		func(m *impl.Model) { m.Mem = nil },
		func(m *impl.Model) { m.Dev.Regs[0]-- },
		func(m *impl.Model) { m.Dev.Regs[3]++ },
		func(m *impl.Model) { m.Dev.Regs = m.Dev.Regs[:3] },
		func(m *impl.Model) { m.Dev.Timer++ },
		func(m *impl.Model) { m.Dev.Timer += 1 << 32 },
		func(m *impl.Model) { m.Dev.Fifo[0]++ },
		func(m *impl.Model) { m.Dev.Fifo[1]-- },
		func(m *impl.Model) { m.Dev.Fifo = m.Dev.Fifo[:1] },
		func(m *impl.Model) { m.Dev.Fifo = append(m.Dev.Fifo, 0) },
		func(m *impl.Model) { m.Dev = impl.Dev{} },
	}
	for at := range 192 {
		for _, d := range []int{1, -1, 256, 1 << 32} {
			changes = append(changes, func(m *impl.Model) { m.Mem[at] += d })
		}
	}
	for i, change := range changes {
		c := cloneModel(a)
		change(&c)
		if impl.SameModel(a, c) || impl.SameModel(c, a) {
			t.Errorf("change %d is not seen: %v", i, c)
		}
	}
}

// Whether a model is valid does not matter for its comparison, and neither
// does whether an empty list is nil.
func TestSameModelOfAnyModels(t *testing.T) {
	for _, m := range append(invalidModels(), validModels()...) {
		if !impl.SameModel(m, cloneModel(m)) {
			t.Errorf("SameModel(%v) and a copy is false", m)
		}
	}
	odd := impl.Model{Mem: []int{math.MinInt, -1}, Dev: impl.Dev{Timer: math.MaxInt}}
	if impl.SameModel(odd, impl.Model{}) || impl.SameModel(impl.Model{}, odd) || impl.SameModel(impl.Model{}, impl.ModelNew()) {
		t.Error("invalid models are not compared")
	}
	empty := impl.Model{Mem: []int{}, Dev: impl.Dev{Regs: []int{}, Fifo: []int{}}}
	if !impl.SameModel(impl.Model{}, empty) || !impl.SameModel(empty, impl.Model{}) {
		t.Error("a nil list and an empty one differ")
	}
}
