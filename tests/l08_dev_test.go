package tests

import (
	"math"
	"slices"
	"testing"

	"loop.example/g01623/impl"
)

// devOf returns a valid device whose numbers are all different, with so many
// elements in its FIFO.
func devOf(fifo int) impl.Dev {
	d := impl.Dev{Regs: []int{0xffffffff, 0, 0x12345678, 0x80000000}, Timer: 0xfffffffe}
	for i := range fifo {
		d.Fifo = append(d.Fifo, 0xffffff00+i)
	}
	return d
}

// validDevs returns devices with every length of the FIFO and with the largest
// numbers.
func validDevs() []impl.Dev {
	l := []impl.Dev{
		{Regs: []int{0, 0, 0, 0}, Fifo: []int{}},
		{Regs: slices.Repeat([]int{0xffffffff}, 4), Timer: 0xffffffff, Fifo: slices.Repeat([]int{0xffffffff}, 4)},
		{Regs: []int{1, 2, 3, 4}, Timer: 5, Fifo: []int{6}},
	}
	for fifo := range 5 {
		l = append(l, devOf(fifo))
	}
	return l
}

// invalidDevs returns devices with too few or too many registers, with too
// many elements in the FIFO, and with a number beyond its limit in each place.
func invalidDevs() []impl.Dev {
	l := []impl.Dev{{}, {Timer: 7}, {Fifo: []int{1, 2}}}
	for _, regs := range []int{1, 2, 3, 5, 6, 8, 100} {
		for fifo := range 5 {
			d := devOf(fifo)
			d.Regs = make([]int, regs)
			l = append(l, d)
		}
	}
	for _, fifo := range []int{5, 6, 7, 8, 12, 100} {
		l = append(l, impl.Dev{Regs: []int{1, 2, 3, 4}, Fifo: make([]int, fifo)})
	}
	for _, v := range beyondLimit(2) {
		for i := range 4 {
			a, b := devOf(4), devOf(4)
			a.Regs[i], b.Fifo[i] = v, v
			l = append(l, a, b)
		}
		d, e := devOf(1), devOf(0)
		d.Fifo[0], e.Timer = v, v
		l = append(l, d, e)
	}
	return l
}

func cloneDev(d impl.Dev) impl.Dev {
	return impl.Dev{Regs: slices.Clone(d.Regs), Timer: d.Timer, Fifo: slices.Clone(d.Fifo)}
}

// sameDevFields compares devices without the program.
func sameDevFields(a, b impl.Dev) bool {
	return slices.Equal(a.Regs, b.Regs) && a.Timer == b.Timer && slices.Equal(a.Fifo, b.Fifo)
}

// wantDevDo executes one access of a valid device, with words of 32 bits that
// wrap around by themselves and with a table of what is at each offset.
func wantDevDo(d impl.Dev, write bool, at, v int) (impl.Dev, int, bool) {
	next := cloneDev(d)
	timer := uint32(d.Timer)
	places := map[int]*int{0: &next.Regs[0], 4: &next.Regs[1], 8: &next.Regs[2], 12: &next.Regs[3], 16: &next.Timer}
	place := places[at]
	switch {
	case write && v != int(uint32(v)):
	case write && place != nil:
		*place = v
		return next, v, true
	case place != nil:
		n := *place
		if at == 16 {
			timer++
			next.Timer = int(timer)
		}
		return next, n, true
	case at == 20 && write && len(d.Fifo) < 4:
		next.Fifo = slices.Concat(d.Fifo, []int{v})
		return next, v, true
	case at == 20 && !write && len(d.Fifo) > 0:
		next.Fifo = slices.Delete(next.Fifo, 0, 1)
		return next, d.Fifo[0], true
	}
	return next, 0, false
}

// checkDevDo compares one access of a valid device with wantDevDo, and returns
// the device after it.
func checkDevDo(t *testing.T, d impl.Dev, write bool, at, v int) impl.Dev {
	t.Helper()
	kept := cloneDev(d)
	want, wantN, wantOk := wantDevDo(d, write, at, v)
	got, n, ok := impl.DevDo(d, write, at, v)
	if !sameDevFields(got, want) || n != wantN || ok != wantOk {
		t.Errorf("DevDo(%v, %v, %d, %d) = %v, %d, %v, want %v, %d, %v", kept, write, at, v, got, n, ok, want, wantN, wantOk)
	}
	if !sameDevFields(d, kept) {
		t.Errorf("DevDo(%v, %v, %d, %d) has changed its argument to %v", kept, write, at, v, d)
	}
	return got
}

// checkDevKept makes an access that must be refused, and checks that a copy of
// the device comes back.
func checkDevKept(t *testing.T, d impl.Dev, write bool, at, v int) {
	t.Helper()
	kept := cloneDev(d)
	got, n, ok := impl.DevDo(d, write, at, v)
	if !sameDevFields(got, kept) || n != 0 || ok {
		t.Errorf("DevDo(%v, %v, %d, %d) = %v, %d, %v", kept, write, at, v, got, n, ok)
	}
	clear(got.Regs[:cap(got.Regs)])
	clear(got.Fifo[:cap(got.Fifo)])
	if !sameDevFields(d, kept) {
		t.Errorf("DevDo(%v, %v, %d, %d) shares or changes its argument", kept, write, at, v)
	}
}

// devOffsets returns the offsets of the device, all others around them, and
// numbers that have the low bits of an offset.
func devOffsets() []int {
	l := append(sampleNumbers(), 1<<32+4, 1<<32+16, 1<<32+20, math.MinInt+16, math.MinInt+20, 1<<62+20)
	for at := -40; at <= 300; at++ {
		l = append(l, at)
	}
	return l
}

func TestDevNumbers(t *testing.T) {
	if impl.FifoMost != 4 {
		t.Errorf("FifoMost = %d", impl.FifoMost)
	}
}

func TestDevNew(t *testing.T) {
	d := impl.DevNew()
	if !slices.Equal(d.Regs, []int{0, 0, 0, 0}) || d.Timer != 0 || len(d.Fifo) != 0 || !impl.DevOk(d) {
		t.Errorf("DevNew() = %v", d)
	}
	d.Regs[0], d.Regs[3] = 7, 8
	d.Fifo = append(d.Fifo, 9)
	if e := impl.DevNew(); !slices.Equal(e.Regs, []int{0, 0, 0, 0}) || len(e.Fifo) != 0 {
		t.Errorf("DevNew() = %v after a change of its last result", e)
	}
}

func TestDevOkOfValidDevs(t *testing.T) {
	for _, d := range validDevs() {
		if !impl.DevOk(d) {
			t.Errorf("DevOk(%v) is false", d)
		}
	}
	for _, v := range numbersOf(2) {
		for i := range 4 {
			d := devOf(4)
			d.Regs[i], d.Fifo[i], d.Timer = v, v, v
			if !impl.DevOk(d) {
				t.Errorf("DevOk(%v) is false", d)
			}
		}
	}
}

func TestDevOkOfInvalidDevs(t *testing.T) {
	for _, d := range invalidDevs() {
		if impl.DevOk(d) {
			t.Errorf("DevOk(%v) is true", d)
		}
	}
}

func TestDevDoExamples(t *testing.T) {
	d := impl.Dev{Regs: []int{10, 11, 12, 13}, Timer: 14, Fifo: []int{15, 16}}
	for _, c := range []struct {
		write bool
		at, v int
		want  impl.Dev
		n     int
	}{
		{false, 0, 0, d, 10}, {false, 4, 0, d, 11}, {false, 8, 0, d, 12}, {false, 12, 0, d, 13},
		{false, 16, 0, impl.Dev{Regs: d.Regs, Timer: 15, Fifo: d.Fifo}, 14},
		{false, 20, 0, impl.Dev{Regs: d.Regs, Timer: 14, Fifo: []int{16}}, 15},
		{true, 0, 99, impl.Dev{Regs: []int{99, 11, 12, 13}, Timer: 14, Fifo: d.Fifo}, 99},
		{true, 4, 98, impl.Dev{Regs: []int{10, 98, 12, 13}, Timer: 14, Fifo: d.Fifo}, 98},
		{true, 8, 97, impl.Dev{Regs: []int{10, 11, 97, 13}, Timer: 14, Fifo: d.Fifo}, 97},
		{true, 12, 0, impl.Dev{Regs: []int{10, 11, 12, 0}, Timer: 14, Fifo: d.Fifo}, 0},
		{true, 16, 4294967295, impl.Dev{Regs: d.Regs, Timer: 4294967295, Fifo: d.Fifo}, 4294967295},
		{true, 20, 96, impl.Dev{Regs: d.Regs, Timer: 14, Fifo: []int{15, 16, 96}}, 96},
	} {
		got, n, ok := impl.DevDo(d, c.write, c.at, c.v)
		if !sameDevFields(got, c.want) || n != c.n || !ok {
			t.Errorf("DevDo(%v, %d, %d) = %v, %d, %v, want %v, %d", c.write, c.at, c.v, got, n, ok, c.want, c.n)
		}
	}
}

func TestDevDoEverywhere(t *testing.T) {
	for _, d := range validDevs() {
		for _, at := range devOffsets() {
			for _, v := range append(numbersOf(2), beyondLimit(2)...) {
				checkDevDo(t, d, true, at, v)
				checkDevDo(t, d, false, at, v)
			}
		}
	}
}

// The device has words at six offsets and nothing elsewhere, not even at the
// other bytes of these words.
func TestDevHasSixWords(t *testing.T) {
	d := impl.Dev{Regs: []int{1, 2, 3, 4}, Timer: 5, Fifo: []int{6, 7}}
	for _, at := range devOffsets() {
		if slices.Contains([]int{0, 4, 8, 12, 16, 20}, at) {
			continue
		}
		checkDevKept(t, d, true, at, 9)
		checkDevKept(t, d, false, at, 9)
	}
}

// The edge case of the stage: a full FIFO refuses every number and keeps its
// own, until one of them has been read.
func TestFullFifo(t *testing.T) {
	d := impl.DevNew()
	for i := range 4 {
		if len(d.Fifo) != i {
			t.Fatalf("the FIFO has %d elements, want %d", len(d.Fifo), i)
		}
		d = checkDevDo(t, d, true, 20, 50+i)
	}
	if want := []int{50, 51, 52, 53}; !slices.Equal(d.Fifo, want) {
		t.Fatalf("the FIFO is %v, want %v", d.Fifo, want)
	}
	for _, v := range numbersOf(2) {
		checkDevKept(t, d, true, 20, v)
	}
	for i := range 9 {
		next, n, ok := impl.DevDo(d, false, 20, 0)
		if n != 50+i || !ok || len(next.Fifo) != 3 {
			t.Fatalf("reading a full FIFO = %v, %d, %v, want %d", next, n, ok, 50+i)
		}
		next, n, ok = impl.DevDo(next, true, 20, 54+i)
		if n != 54+i || !ok || !slices.Equal(next.Fifo, []int{51 + i, 52 + i, 53 + i, 54 + i}) {
			t.Fatalf("writing the last element = %v, %d, %v", next, n, ok)
		}
		checkDevKept(t, next, true, 20, 1)
		d = next
	}
}

// A full FIFO concerns the offset 20 only.
func TestFullFifoLetsTheOtherWordsWork(t *testing.T) {
	d := devOf(4)
	for _, at := range []int{0, 4, 8, 12, 16} {
		for _, v := range numbersOf(2) {
			next := checkDevDo(t, d, true, at, v)
			if back, n, ok := impl.DevDo(next, false, at, 0); n != v || !ok || !slices.Equal(back.Fifo, d.Fifo) {
				t.Errorf("reading %d at %d = %v, %d, %v", v, at, back, n, ok)
			}
		}
	}
}

func TestFullFifoWithCapacityLeft(t *testing.T) {
	whole := []int{1, 2, 3, 4, 5, 6}
	d := impl.Dev{Regs: []int{1, 2, 3, 4}, Fifo: whole[:4]}
	checkDevKept(t, d, true, 20, 9)
	d.Fifo = whole[:3]
	if next := checkDevDo(t, d, true, 20, 9); !slices.Equal(next.Fifo, []int{1, 2, 3, 9}) {
		t.Errorf("the FIFO is %v", next.Fifo)
	}
	if !slices.Equal(whole, []int{1, 2, 3, 4, 5, 6}) {
		t.Errorf("the capacity after the FIFO has become %v", whole)
	}
}

func TestEmptyFifo(t *testing.T) {
	for _, fifo := range [][]int{nil, {}, make([]int, 0, 9)} {
		d := impl.Dev{Regs: []int{1, 2, 3, 4}, Timer: 5, Fifo: fifo}
		checkDevKept(t, d, false, 20, 0)
		checkDevKept(t, d, false, 20, 9)
		next := checkDevDo(t, d, true, 20, 9)
		if next = checkDevDo(t, next, false, 20, 0); len(next.Fifo) != 0 {
			t.Errorf("the FIFO is %v after its only element has been read", next.Fifo)
		}
		checkDevKept(t, next, false, 20, 0)
	}
}

// Only reading the timer increments it, and only after the number is taken.
func TestTimer(t *testing.T) {
	d := impl.DevNew()
	d = checkDevDo(t, d, true, 16, 4294967293)
	for _, want := range []int{4294967293, 4294967294, 4294967295, 0, 1, 2} {
		for _, at := range []int{0, 4, 8, 12, 20, 24, 17} {
			d = checkDevDo(t, d, false, at, 0)
			d = checkDevDo(t, d, true, at, 7)
		}
		next, n, ok := impl.DevDo(d, false, 16, 0)
		if n != want || !ok {
			t.Errorf("the timer is %d, %v, want %d", n, ok, want)
		}
		d = next
	}
	if d.Timer != 3 {
		t.Errorf("the timer has become %d", d.Timer)
	}
}

func TestDevWritesOneBeyondTheLimit(t *testing.T) {
	for _, at := range []int{0, 4, 8, 12, 16, 20, 24, 1, -4} {
		for _, v := range beyondLimit(2) {
			checkDevKept(t, devOf(2), true, at, v)
			checkDevKept(t, impl.DevNew(), true, at, v)
		}
	}
}

// What a read is given as its number does not matter.
func TestDevReadsIgnoreTheNumber(t *testing.T) {
	d := impl.Dev{Regs: []int{10, 11, 12, 13}, Timer: 14, Fifo: []int{15}}
	for i, at := range []int{0, 4, 8, 12, 16, 20} {
		for _, v := range append(beyondLimit(2), sampleNumbers()...) {
			if _, n, ok := impl.DevDo(d, false, at, v); n != 10+i || !ok {
				t.Errorf("DevDo(%v, false, %d, %d) = %d, %v", d, at, v, n, ok)
			}
		}
	}
}

func TestInvalidDevsAreKept(t *testing.T) {
	for _, d := range invalidDevs() {
		for _, at := range []int{0, 4, 8, 12, 16, 20, 24, 1, -4, math.MaxInt, math.MinInt} {
			for _, v := range []int{0, 1, 4294967295, 4294967296, -1} {
				checkDevKept(t, d, true, at, v)
				checkDevKept(t, d, false, at, v)
			}
		}
	}
}

// Promise 4: the device returns what was written last, and an error changes
// nothing. The test keeps its own words in long runs of mixed accesses.
func TestDevReturnsWhatWasWrittenLast(t *testing.T) {
	regs := map[int]int{0: 0, 4: 0, 8: 0, 12: 0}
	timer, seed := uint32(0), uint32(1)
	var queue []int
	random := func(n int) int {
		seed = seed*1664525 + 1013904223
		return int(seed) * n >> 32
	}
	d := impl.DevNew()
	for range 20000 {
		write, at, v := random(2) == 0, random(8)*4, random(1<<30)*5-1<<28
		next, n, ok := impl.DevDo(d, write, at, v)
		wantN, wantOk := v, v >= 0 && v < 1<<32
		switch {
		case write && !wantOk:
			wantN = 0
		case at < 16 && write:
			regs[at] = v
		case at < 16:
			wantN, wantOk = regs[at], true
		case at == 16 && write:
			timer = uint32(v)
		case at == 16:
			wantN, wantOk = int(timer), true
			timer++
		case at == 20 && write && len(queue) < 4:
			queue = append(queue, v)
		case at == 20 && !write && len(queue) > 0:
			wantN, wantOk = queue[0], true
			queue = queue[1:]
		default:
			wantN, wantOk = 0, false
		}
		if n != wantN || ok != wantOk {
			t.Fatalf("DevDo(%v, %v, %d, %d) = %d, %v, want %d, %v", d, write, at, v, n, ok, wantN, wantOk)
		}
		if !ok && !sameDevFields(next, d) {
			t.Fatalf("an error changes %v to %v", d, next)
		}
		want := impl.Dev{Regs: []int{regs[0], regs[4], regs[8], regs[12]}, Timer: int(timer), Fifo: queue}
		if !sameDevFields(next, want) || !impl.DevOk(next) {
			t.Fatalf("the device is %v, want %v", next, want)
		}
		d = next
	}
}

// No two lists of a device share memory after an access, even if they did
// before, and neither do the results of two accesses.
func TestDevDoIsNewMemory(t *testing.T) {
	list := []int{1, 2, 3, 4}
	shared := impl.Dev{Regs: list, Timer: 5, Fifo: list}
	for _, at := range []int{0, 4, 8, 12, 16, 20, 24} {
		for _, write := range []bool{true, false} {
			want, _, _ := wantDevDo(impl.Dev{Regs: slices.Clone(list), Timer: 5, Fifo: slices.Clone(list)}, write, at, 9)
			a := checkDevDo(t, shared, write, at, 9)
			b := checkDevDo(t, shared, write, at, 9)
			clear(a.Regs[:cap(a.Regs)])
			if !slices.Equal(a.Fifo, want.Fifo) {
				t.Errorf("at %d, two lists of one result share memory", at)
			}
			clear(a.Fifo[:cap(a.Fifo)])
			if !sameDevFields(b, want) || !slices.Equal(list, []int{1, 2, 3, 4}) {
				t.Errorf("at %d, a result shares memory with the argument or another result", at)
			}
		}
	}
}

func TestDevFunctionsKeepTheirArguments(t *testing.T) {
	whole := []int{1, 2, 3, 4, 5, 6, 7, 8, 9}
	kept := slices.Clone(whole)
	d := impl.Dev{Regs: whole[1:5], Timer: 7, Fifo: whole[5:7]}
	if !impl.DevOk(d) || !impl.SameDev(d, cloneDev(d)) {
		t.Error(d)
	}
	for at := -4; at <= 28; at++ {
		for _, v := range []int{77, -1} {
			a, _, _ := impl.DevDo(d, true, at, v)
			b, _, _ := impl.DevDo(d, false, at, v)
			for _, list := range [][]int{a.Regs, a.Fifo, b.Regs, b.Fifo} {
				clear(list[:cap(list)])
			}
			if !slices.Equal(whole, kept) {
				t.Fatalf("an access at %d changes the argument or the capacity after it: %v", at, whole)
			}
		}
	}
}

func TestSameDevComparesEachField(t *testing.T) {
	a := impl.Dev{Regs: []int{1, 2, 3, 4}, Timer: 5, Fifo: []int{6, 7}}
	b := impl.Dev{Regs: append(make([]int, 0, 9), a.Regs...), Timer: 5, Fifo: append(make([]int, 0, 9), a.Fifo...)}
	if !impl.SameDev(a, a) || !impl.SameDev(a, b) || !impl.SameDev(b, a) {
		t.Error("equal devices differ")
	}
	for i, change := range []func(d *impl.Dev){
		func(d *impl.Dev) { d.Regs[0] = 0 },
		func(d *impl.Dev) { d.Regs[1] = 3 },
		func(d *impl.Dev) { d.Regs[2] += 1 << 32 },
		func(d *impl.Dev) { d.Regs[3] = -4 },
		func(d *impl.Dev) { slices.Reverse(d.Regs) },
		func(d *impl.Dev) { d.Regs = d.Regs[:3] },
		func(d *impl.Dev) { d.Regs = append(d.Regs, 0) },
		func(d *impl.Dev) { d.Regs = nil },
		func(d *impl.Dev) { d.Timer = 6 },
		func(d *impl.Dev) { d.Timer += 1 << 32 },
		func(d *impl.Dev) { d.Fifo[0] = 7 },
		func(d *impl.Dev) { d.Fifo[1] = 6 },
		func(d *impl.Dev) { slices.Reverse(d.Fifo) },
		func(d *impl.Dev) { d.Fifo = d.Fifo[:1] },
		func(d *impl.Dev) { d.Fifo = append(d.Fifo, 0) },
		func(d *impl.Dev) { d.Fifo = nil },
		func(d *impl.Dev) { d.Regs, d.Fifo = d.Fifo, d.Regs },
		func(d *impl.Dev) { d.Regs, d.Fifo = d.Regs[:3], []int{4, 6, 7} },
	} {
		c := cloneDev(a)
		change(&c)
		if impl.SameDev(a, c) || impl.SameDev(c, a) {
			t.Errorf("change %d is not seen: %v", i, c)
		}
	}
}

// Whether a device is valid does not matter for its comparison, and neither
// does whether an empty list is nil.
func TestSameDevOfAnyDevs(t *testing.T) {
	for _, d := range append(invalidDevs(), validDevs()...) {
		if !impl.SameDev(d, cloneDev(d)) {
			t.Errorf("SameDev(%v) and a copy is false", d)
		}
	}
	odd := impl.Dev{Regs: []int{math.MinInt, -1}, Timer: math.MaxInt, Fifo: make([]int, 9)}
	if impl.SameDev(odd, impl.Dev{}) || impl.SameDev(impl.Dev{}, odd) || impl.SameDev(impl.Dev{}, impl.DevNew()) {
		t.Error("invalid devices are not compared")
	}
	if empty := (impl.Dev{Regs: []int{}, Fifo: []int{}}); !impl.SameDev(impl.Dev{}, empty) || !impl.SameDev(empty, impl.Dev{}) {
		t.Error("a nil list and an empty one differ")
	}
}
