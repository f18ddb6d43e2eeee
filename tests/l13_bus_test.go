package tests

import (
	"math"
	"slices"
	"testing"

	"loop.example/g01623/impl"
)

// busConfs returns configurations with one to four masters, the first one with
// the smallest limits and the last one with the largest.
func busConfs() []impl.Conf {
	return []impl.Conf{
		{Masters: mastersOf("n", 0), Quantum: 1, MaxSplit: 1, LockMost: 1},
		{Masters: mastersOf("pn", 100), Quantum: 4, MaxRetry: 1, MaxSplit: 2, LockMost: 3},
		{Masters: mastersOf("npn", 300), Quantum: 2, MaxWait: 1, MaxRetry: 2, MaxSplit: 5, LockMost: 7},
		{Masters: mastersOf("nnnn", 0), Quantum: 3, MaxWait: 3, MaxRetry: 3, MaxSplit: 12, LockMost: 40},
	}
}

// busOf returns a valid bus at rest, in the middle of a run.
func busOf(c impl.Conf) impl.Bus {
	last := len(c.Masters) - 1
	b := impl.Bus{Conf: c, Now: 30, M: make([]impl.Mst, last+1), Arb: impl.Wrr{At: last, Credit: 1}, Splits: make([]int, last+1), Holder: -1, Last: last, Model: modelOf(2), Picks: 12}
	for _, m := range c.Masters {
		b.Buckets = append(b.Buckets, impl.Bucket{Tokens: m.Cap, Count: m.Every / 2})
	}
	b.Log = []impl.Done{{Cycle: 4, Addr: 508, Size: 2, Resp: impl.ReError}, {Cycle: 5, Who: last, Write: true, Addr: 6, Size: 1, Value: 65535}, {Cycle: 29, Addr: 191, Value: 255}}
	return cloneBus(b)
}

// wantingBus returns a valid bus on which each master has two requests, and
// the beats before this one are completed. Bit i of locks decides whether the
// first request of master i has a lock.
func wantingBus(c impl.Conf, done, locks int) impl.Bus {
	b := busOf(c)
	for who := range b.M {
		queue := []impl.Req{{Addr: 32 * who, Size: who % 3, Burst: impl.BuFour, Lock: locks>>who&1 == 1}, {Write: true, Addr: 7, Lock: true, Data: []int{99}}}
		b.M[who] = impl.Mst{Queue: queue, Beat: done, Done: done}
	}
	return b
}

// granted returns the bus after two masters, or -1 for none, have been granted
// the beats in the data phase and in the address phase.
func granted(b impl.Bus, data, addr int) impl.Bus {
	b = cloneBus(b)
	for i, who := range []int{data, addr} {
		if who < 0 {
			continue
		}
		beat := impl.Beat{Live: true, Who: who, Beat: b.M[who].Beat, First: b.M[who].Beat == 0, By: impl.ByTurn}
		b.M[who].Beat++
		b.Last = who
		if i == 0 {
			b.Data = beat
		} else {
			b.Addr = beat
		}
	}
	return b
}

// forEachFlight calls f with buses for every pair of masters on their way,
// every mix of locks, broken or not, and every Holder. Not all are valid.
func forEachFlight(c impl.Conf, f func(b impl.Bus)) {
	masters := len(c.Masters)
	for bits := range 1 << (2 * masters) {
		for _, done := range []int{0, 1, 2} {
			wanting := wantingBus(c, done, bits)
			for who := range masters {
				wanting.M[who].Broken = bits>>masters>>who&1 == 1
			}
			for data := -1; data < masters; data++ {
				for addr := -1; addr < masters; addr++ {
					b := granted(wanting, data, addr)
					for b.Holder = -1; b.Holder < masters; b.Holder++ {
						f(b)
					}
				}
			}
		}
	}
}

// someBuses returns valid buses at rest and with beats on their way, with
// every response and with most numbers at a limit.
func someBuses() []impl.Bus {
	var l []impl.Bus
	for i, c := range busConfs() {
		// More masters can be on their way in far more ways.
		stride := []int{5, 37, 251, 1543}[i]
		b, _ := impl.BusNew(c)
		late := busOf(c)
		late.Now, late.Last, late.Picks, late.Log[2].Cycle = 4000, -1, 4000, 3999
		early := busOf(c)
		early.Now, early.Picks, early.Log = 1, 1, []impl.Done{{Addr: 3}}
		l = append(l, b, late, early)
		seen := 0
		forEachFlight(c, func(b impl.Bus) {
			if !wantBusOk(b) {
				return
			}
			if seen++; seen%stride == 0 {
				l = append(l, varied(cloneBus(b), seen))
			}
		})
	}
	return l
}

// varied returns the valid bus with other numbers, as long as it stays valid.
func varied(b impl.Bus, n int) impl.Bus {
	for who := range b.M {
		if b.M[who].Beat == b.M[who].Done && who != b.Holder {
			b.Splits[who] = n % (b.Conf.MaxSplit + 1)
		}
		b.M[who].Tries = (n + who) % (b.Conf.MaxRetry + 1)
		b.M[who].Parted = (n+who)%3 == 1
	}
	if b.Holder >= 0 {
		b.Held = n % (b.Conf.LockMost + 1)
	}
	for _, resp := range []int{n % 4, (n + 1) % 4, (n + 2) % 4} {
		other := b
		if b.Data.Live {
			other.Data.Resp, other.Data.Left, other.Data.By = resp, n%(b.Conf.MaxWait+3), 1+n%3
		}
		if b.Data.Live && !b.Addr.Live && resp != 0 && n%2 == 0 {
			other.Data.Left, other.Data.Second = 0, true
		}
		if wantBusOk(other) {
			return other
		}
	}
	return b
}

func cloneBus(b impl.Bus) impl.Bus {
	b.Conf.Masters = slices.Clone(b.Conf.Masters)
	b.M = slices.Clone(b.M)
	for i, m := range b.M {
		b.M[i] = cloneMst(m)
	}
	b.Buckets, b.Splits, b.Log = slices.Clone(b.Buckets), slices.Clone(b.Splits), slices.Clone(b.Log)
	b.Model = cloneModel(b.Model)
	return b
}

// sameBusFields compares buses without the program.
func sameBusFields(a, b impl.Bus) bool {
	same := sameConfFields(a.Conf, b.Conf) && slices.EqualFunc(a.M, b.M, sameMstFields) && slices.Equal(a.Buckets, b.Buckets) &&
		slices.Equal(a.Splits, b.Splits) && slices.Equal(a.Log, b.Log) && sameModelFields(a.Model, b.Model)
	a.Conf, a.M, a.Buckets, a.Splits, a.Log, a.Model = b.Conf, b.M, b.Buckets, b.Splits, b.Log, b.Model
	rest := [][]any{{a.Now, a.Arb, a.Holder, a.Held, a.Last, a.Addr, a.Data, a.Picks}, {b.Now, b.Arb, b.Holder, b.Held, b.Last, b.Addr, b.Data, b.Picks}}
	return same && slices.Equal(rest[0], rest[1])
}

// wantBusOk looks for what is wrong with a bus. The validity of its parts is
// left to the functions of their chapters.
func wantBusOk(b impl.Bus) bool {
	return wantPartsOk(b) && wantBeatsOk(b) && wantAnswerOk(b) && wantHolderOk(b) && wantLogOk(b)
}

func wantPartsOk(b impl.Bus) bool {
	masters := len(b.Conf.Masters)
	lengths := [3]int{len(b.M), len(b.Buckets), len(b.Splits)}
	if !impl.ConfOk(b.Conf) || lengths != [3]int{masters, masters, masters} || !impl.WrrOk(b.Arb, b.Conf) || !impl.ModelOk(b.Model) {
		return false
	}
	for i := range masters {
		if !impl.MstOk(b.M[i], b.Conf) || !impl.BucketOk(b.Buckets[i], b.Conf.Masters[i]) || b.Splits[i] < 0 || b.Splits[i] > b.Conf.MaxSplit {
			return false
		}
	}
	return b.Last >= -1 && b.Last < masters && b.Picks >= 0 && b.Picks <= b.Now && b.Now <= 4000
}

// wantBeatsOk compares the beats on the bus with those that each master has
// been granted, which are the ones from Done on.
func wantBeatsOk(b impl.Bus) bool {
	found := make([][]int, len(b.M))
	for _, beat := range []impl.Beat{b.Data, b.Addr} {
		if beat == (impl.Beat{}) {
			continue
		}
		if !beat.Live || beat.Who < 0 || beat.Who >= len(b.M) || b.Splits[beat.Who] != 0 || !slices.Contains([]int{1, 2, 3}, beat.By) {
			return false
		}
		found[beat.Who] = append(found[beat.Who], beat.Beat)
	}
	for who, m := range b.M {
		var want []int
		for beat := m.Done; beat < m.Beat; beat++ {
			want = append(want, beat)
		}
		if !slices.Equal(found[who], want) {
			return false
		}
	}
	return b.Addr.Left == 0 && b.Addr.Resp == 0 && !b.Addr.Second
}

// wantAnswerOk looks for the answer to the beat in the data phase among all
// possible ones.
func wantAnswerOk(b impl.Bus) bool {
	if !b.Data.Live {
		return true
	}
	m := b.M[b.Data.Who]
	answers := []int{0, 1}
	if m.Tries != b.Conf.MaxRetry {
		answers = append(answers, 2)
	}
	if !m.Parted && b.Data.Who != b.Holder {
		answers = append(answers, 3)
	}
	lefts := []int{0, 1, 2, 3, 4, 5}[:b.Conf.MaxWait+3]
	if b.Data.Second {
		answers, lefts = answers[1:], lefts[:1]
	}
	return slices.Contains(answers, b.Data.Resp) && slices.Contains(lefts, b.Data.Left) && (!b.Data.Second || !b.Addr.Live)
}

// wantHolderOk compares the Holder with the masters that can and must be it.
func wantHolderOk(b impl.Bus) bool {
	var can, must []int
	for who, m := range b.M {
		if len(m.Queue) == 0 || !m.Queue[0].Lock || m.Broken {
			continue
		}
		if b.Splits[who] == 0 {
			can = append(can, who)
		}
		if m.Beat != 0 {
			must = append(must, who)
		}
	}
	if b.Holder == -1 {
		return b.Held == 0 && len(must) == 0
	}
	others := slices.DeleteFunc(must, func(who int) bool { return who == b.Holder })
	return slices.Contains(can, b.Holder) && len(others) == 0 && b.Held >= 0 && b.Held <= b.Conf.LockMost
}

func wantLogOk(b impl.Bus) bool {
	cycles := []int{-1}
	for _, d := range b.Log {
		if d.Who < 0 || d.Who >= len(b.M) || d.Size < 0 || d.Size > 2 || d.Addr < 0 || d.Addr > 511 || d.Value < 0 || d.Resp < 0 || d.Resp > 1 {
			return false
		}
		if d.Addr%[]int{1, 2, 4}[d.Size] != 0 || d.Value > []int{255, 65535, 4294967295}[d.Size] {
			return false
		}
		cycles = append(cycles, d.Cycle)
	}
	cycles = append(cycles, b.Now)
	return slices.IsSorted(cycles) && len(slices.Compact(slices.Clone(cycles))) == len(cycles)
}

// beatNumbers returns the numbers of a beat.
func beatNumbers(b *impl.Beat) []*int {
	return []*int{&b.Who, &b.Beat, &b.By, &b.Left, &b.Resp}
}

// stateNumbers returns the numbers that change from cycle to cycle, except
// those in queues, the model and the log.
func stateNumbers(b *impl.Bus) []*int {
	l := []*int{&b.Now, &b.Arb.At, &b.Arb.Credit, &b.Holder, &b.Held, &b.Last, &b.Picks}
	l = append(append(l, beatNumbers(&b.Addr)...), beatNumbers(&b.Data)...)
	for i := range b.M {
		l = append(l, &b.M[i].Beat, &b.M[i].Done, &b.M[i].Tries)
	}
	for i := range b.Buckets {
		l = append(l, &b.Buckets[i].Tokens, &b.Buckets[i].Count)
	}
	for i := range b.Splits {
		l = append(l, &b.Splits[i])
	}
	return l
}

// busNumbers returns all numbers of a bus, except most of the memory's.
func busNumbers(b *impl.Bus) []*int {
	l := append(stateNumbers(b), &b.Conf.Quantum, &b.Conf.MaxWait, &b.Conf.MaxRetry, &b.Conf.MaxSplit, &b.Conf.LockMost)
	for i := range b.Conf.Masters {
		l = append(l, &b.Conf.Masters[i].Weight, &b.Conf.Masters[i].Every, &b.Conf.Masters[i].Cap)
	}
	for _, m := range b.M {
		for i := range m.Queue {
			r := &m.Queue[i]
			l = append(l, &r.Addr, &r.Size, &r.Burst)
			for j := range r.Data {
				l = append(l, &r.Data[j])
			}
		}
	}
	for i := range b.Log {
		d := &b.Log[i]
		l = append(l, &d.Cycle, &d.Who, &d.Addr, &d.Size, &d.Value, &d.Resp)
	}
	l = append(l, &b.Model.Mem[0], &b.Model.Mem[191], &b.Model.Dev.Timer, &b.Model.Dev.Regs[3])
	for i := range b.Model.Dev.Fifo {
		l = append(l, &b.Model.Dev.Fifo[i])
	}
	return l
}

// busFlags returns all booleans of a bus.
func busFlags(b *impl.Bus) []*bool {
	l := []*bool{&b.Addr.Live, &b.Addr.First, &b.Addr.Second, &b.Data.Live, &b.Data.First, &b.Data.Second}
	for i := range b.M {
		l = append(l, &b.M[i].Parted, &b.M[i].Broken)
		for j := range b.M[i].Queue {
			l = append(l, &b.M[i].Queue[j].Lock, &b.M[i].Queue[j].Write)
		}
	}
	for i := range b.Log {
		l = append(l, &b.Log[i].Write)
	}
	for i := range b.Conf.Masters {
		l = append(l, &b.Conf.Masters[i].Prio)
	}
	return l
}

// listChanges returns functions that make one list of a bus longer or shorter,
// or exchange two of its elements.
func listChanges() []func(b *impl.Bus) {
	return []func(b *impl.Bus){
		func(b *impl.Bus) { b.M = nil }, func(b *impl.Bus) { b.M = b.M[1:] }, func(b *impl.Bus) { b.M = append(b.M, impl.Mst{}) },
		func(b *impl.Bus) { b.Buckets = nil }, func(b *impl.Bus) { b.Buckets = b.Buckets[1:] }, func(b *impl.Bus) { b.Buckets = append(b.Buckets, impl.Bucket{}) },
		func(b *impl.Bus) { b.Splits = nil }, func(b *impl.Bus) { b.Splits = b.Splits[1:] }, func(b *impl.Bus) { b.Splits = append(b.Splits, 0) },
		func(b *impl.Bus) { b.Conf.Masters = nil }, func(b *impl.Bus) { b.Conf.Masters = b.Conf.Masters[1:] }, func(b *impl.Bus) { b.Conf.Masters = append(b.Conf.Masters, impl.MConf{Weight: 1}) },
		func(b *impl.Bus) { b.Model.Mem = b.Model.Mem[1:] }, func(b *impl.Bus) { b.Model.Mem = nil }, func(b *impl.Bus) { b.Model.Dev.Regs = nil },
		func(b *impl.Bus) { b.Model.Dev.Fifo = append(b.Model.Dev.Fifo, 5) },
		func(b *impl.Bus) { b.M[0].Queue = append(b.M[0].Queue, impl.Req{}) }, func(b *impl.Bus) { b.M[0] = impl.Mst{Queue: queueOf(1)} },
		func(b *impl.Bus) { b.Log = append(b.Log, impl.Done{Cycle: b.Now - 1}) }, func(b *impl.Bus) { b.Log = slices.Concat([]impl.Done{{}}, b.Log) },
		func(b *impl.Bus) { b.Log = append(b.Log, impl.Done{Cycle: b.Now}) },
	}
}

// otherValues returns numbers near n and near the limits of the numbers of a
// bus, and numbers that have the same low bits.
func otherValues(n int) []int {
	l := []int{n - 2, n - 1, n + 1, n + 2, n + 1<<32, n - 1<<32, n + math.MinInt, -1, 0, 1, 2, 3, 4, 5, 6, 8, 12, 13, 30, 256, 511, 512, 4000, 4001, math.MaxInt, math.MinInt}
	return slices.DeleteFunc(l, func(v int) bool { return v == n })
}

// forEachChange calls f with copies of the bus that differ from it in one
// number, one boolean or one list.
func forEachChange(b impl.Bus, f func(other impl.Bus)) {
	for i, p := range busNumbers(&b) {
		for _, v := range otherValues(*p) {
			other := cloneBus(b)
			*busNumbers(&other)[i] = v
			f(other)
		}
	}
	for i := range busFlags(&b) {
		other := cloneBus(b)
		p := busFlags(&other)[i]
		*p = !*p
		f(other)
	}
	for _, change := range listChanges() {
		other := cloneBus(b)
		change(&other)
		f(other)
	}
}

func checkBus(t *testing.T, b impl.Bus, want bool) {
	t.Helper()
	if got := impl.BusOk(b); got != want {
		t.Errorf("BusOk(%v) = %v", b, got)
	}
	idle := want
	for _, m := range b.M {
		idle = idle && len(m.Queue) == 0
	}
	if got := impl.IdleBus(b); got != idle {
		t.Errorf("IdleBus(%v) = %v", b, got)
	}
}

// checkChanges checks the bus after each of the changes.
func checkChanges(t *testing.T, b impl.Bus, want bool, changes ...func(b *impl.Bus)) {
	t.Helper()
	for i, change := range changes {
		other := cloneBus(b)
		change(&other)
		if got := impl.BusOk(other); got != want {
			t.Errorf("change %d: BusOk(%v) = %v", i, other, got)
		}
	}
}

func TestWaysOfAGrant(t *testing.T) {
	if got := [4]int{impl.ByNone, impl.ByToken, impl.ByTurn, impl.ByLock}; got != [4]int{0, 1, 2, 3} {
		t.Error(got)
	}
}

func TestBusNewExample(t *testing.T) {
	c, _ := impl.ReadConf("2 1 1 3 4 1 3:200:5")
	b, ok := impl.BusNew(c)
	want := impl.Bus{
		Conf: c, M: []impl.Mst{{}, {}}, Buckets: []impl.Bucket{{}, {Tokens: 5}}, Splits: []int{0, 0},
		Holder: -1, Last: -1, Model: impl.Model{Mem: make([]int, 192), Dev: impl.Dev{Regs: make([]int, 4)}},
	}
	if !ok || !sameBusFields(b, want) {
		t.Errorf("BusNew(%v) = %v, %v", c, b, ok)
	}
	checkBus(t, b, true)
}

func TestBusNewOfEachConf(t *testing.T) {
	forEachWrrConf(func(c impl.Conf) {
		b, ok := impl.BusNew(c)
		want := impl.Bus{Conf: c, M: make([]impl.Mst, len(c.Masters)), Splits: make([]int, len(c.Masters)), Holder: -1, Last: -1, Model: impl.Model{Mem: make([]int, 192), Dev: impl.Dev{Regs: make([]int, 4)}}}
		for _, m := range c.Masters {
			want.Buckets = append(want.Buckets, impl.Bucket{Tokens: m.Cap})
		}
		if !ok || !sameBusFields(b, want) || !impl.SameBus(b, want) {
			t.Errorf("BusNew(%v) = %v, %v", c, b, ok)
		}
		checkBus(t, b, true)
	})
}

func TestInvalidConfsHaveNoBus(t *testing.T) {
	for _, c := range append(badWrrConfs(), retryConf(-1), retryConf(4)) {
		if b, ok := impl.BusNew(c); ok || !sameBusFields(b, impl.Bus{}) {
			t.Errorf("BusNew(%v) = %v, %v", c, b, ok)
		}
		b := busOf(busConfs()[1])
		b.Conf = c
		checkBus(t, b, false)
		checkBus(t, impl.Bus{Conf: c, Holder: -1, Last: -1, Model: impl.ModelNew()}, false)
	}
	checkBus(t, impl.Bus{}, false)
	checkBus(t, impl.Bus{Holder: -1, Last: -1}, false)
}

func TestBusNewIsNewMemory(t *testing.T) {
	for _, c := range validConfs() {
		spare := append(slices.Clone(c.Masters), impl.MConf{Weight: 9})
		c.Masters = spare[:len(c.Masters)]
		kept := slices.Clone(spare)
		b, _ := impl.BusNew(c)
		other, _ := impl.BusNew(c)
		lists := [][]int{b.Splits, b.Model.Mem, b.Model.Dev.Regs, b.Model.Dev.Fifo}
		for i, list := range lists {
			for j := range list[:cap(list)] {
				list[:cap(list)][j] = 1000 + i
			}
		}
		for i, list := range lists {
			for _, v := range list[:cap(list)] {
				if v != 1000+i {
					t.Fatalf("two lists of BusNew(%v) are one", c)
				}
			}
		}
		clear(b.Conf.Masters[:cap(b.Conf.Masters)])
		clear(b.M[:cap(b.M)])
		clear(b.Buckets[:cap(b.Buckets)])
		if again, _ := impl.BusNew(c); !slices.Equal(spare, kept) || !sameBusFields(other, again) {
			t.Errorf("BusNew(%v) shares memory", kept)
		}
	}
}

// handRun returns the buses of a run that was executed by hand, one per cycle:
// a single beat of master 1, and a burst of master 0 with a lock that is
// retried, broken and refused.
func handRun() []impl.Bus {
	c, _ := impl.ReadConf("1 1 1 2 5 1 1")
	b, _ := impl.BusNew(c)
	lock := impl.Req{Write: true, Addr: 128, Burst: impl.BuFour, Lock: true, Data: []int{11, 12, 13, 14}}
	l := []impl.Bus{b}
	cycle := func(change func(b *impl.Bus)) {
		next := cloneBus(l[len(l)-1])
		next.Now++
		if next.Holder >= 0 {
			next.Held++
		}
		change(&next)
		l = append(l, next)
	}
	cycle(func(b *impl.Bus) { // both requests are posted, and master 1 is granted
		b.M = []impl.Mst{{Queue: []impl.Req{lock}}, {Queue: []impl.Req{{Addr: 4, Size: 2}}, Beat: 1}}
		b.Arb, b.Last = impl.Wrr{At: 1}, 1
		b.Addr = impl.Beat{Live: true, Who: 1, First: true, By: impl.ByTurn}
	})
	cycle(func(b *impl.Bus) { // the lock begins
		b.Data, b.Picks = b.Addr, 1
		b.Addr = impl.Beat{Live: true, First: true, By: impl.ByTurn}
		b.M[0].Beat, b.Arb, b.Last, b.Holder, b.Held = 1, impl.Wrr{}, 0, 0, 0
	})
	cycle(func(b *impl.Bus) { // the beat of master 1 is completed
		b.Log, b.M[1] = []impl.Done{{Cycle: 2, Who: 1, Addr: 4, Size: 2}}, impl.Mst{}
		b.Data, b.Picks = b.Addr, 2
		b.Data.Left = 1
		b.Addr = impl.Beat{Live: true, Beat: 1, By: impl.ByLock}
		b.M[0].Beat = 2
	})
	cycle(func(b *impl.Bus) { b.Data.Left = 0 })
	cycle(func(b *impl.Bus) { // the next beat will be retried
		b.Log, b.M[0].Done, b.Model.Mem[128] = append(b.Log, impl.Done{Cycle: 4, Write: true, Addr: 128, Value: 11}), 1, 11
		b.Data, b.Picks = b.Addr, 3
		b.Data.Resp = impl.ReRetry
		b.Addr = impl.Beat{Live: true, Beat: 2, By: impl.ByLock}
		b.M[0].Beat = 3
	})
	cycle(func(b *impl.Bus) { b.Data.Second, b.Addr, b.M[0].Beat = true, impl.Beat{}, 2 })
	cycle(func(b *impl.Bus) { // the lock is broken, but the master is granted the same beat again
		b.Data, b.M[0].Tries, b.M[0].Broken, b.Holder, b.Held = impl.Beat{}, 1, true, -1, 0
		b.Addr = impl.Beat{Live: true, Beat: 1, By: impl.ByTurn}
	})
	cycle(func(b *impl.Bus) { // it is refused
		b.Data, b.Picks = b.Addr, 4
		b.Data.Resp = impl.ReError
		b.Addr = impl.Beat{Live: true, Beat: 2, By: impl.ByTurn}
		b.M[0].Beat = 3
	})
	cycle(func(b *impl.Bus) {
		b.Data.Second, b.Addr, b.M[0].Beat, b.Arb.Credit = true, impl.Beat{}, 2, 1
	})
	cycle(func(b *impl.Bus) {
		b.Log = append(b.Log, impl.Done{Cycle: 9, Write: true, Addr: 129, Resp: impl.ReError})
		b.Data, b.M[0].Tries, b.M[0].Done, b.M[0].Beat, b.Arb.Credit = impl.Beat{}, 0, 2, 3, 0
		b.Addr = impl.Beat{Live: true, Beat: 2, By: impl.ByTurn}
	})
	return l
}

// Promise 7: a valid bus stays valid, and at most one beat is completed per
// cycle.
func TestBusesOfARunByHand(t *testing.T) {
	for i, b := range handRun() {
		checkBus(t, b, true)
		if b.Now != i || impl.IdleBus(b) != (i == 0) {
			t.Errorf("after %d cycles the bus is %v", i, b)
		}
		forEachChange(b, func(other impl.Bus) { checkBus(t, other, wantBusOk(other)) })
		if len(b.Log) > 0 {
			twice := b.Log[len(b.Log)-1]
			checkChanges(t, b, false, func(b *impl.Bus) { b.Log = append(b.Log, twice) })
		}
	}
}

// What is wrong with a bus at rest, written out.
func TestBusOkExamplesAtRest(t *testing.T) {
	b := busOf(busConfs()[2])
	checkBus(t, b, true)
	checkChanges(t, b, true,
		func(b *impl.Bus) { b.Now = 4000 }, func(b *impl.Bus) { b.Now, b.Picks, b.Log = 0, 0, nil }, func(b *impl.Bus) { b.Picks = 0 }, func(b *impl.Bus) { b.Picks = 30 },
		func(b *impl.Bus) { b.Last = -1 }, func(b *impl.Bus) { b.Last = 0 }, func(b *impl.Bus) { b.Splits[1] = 5 },
		func(b *impl.Bus) { b.M[1] = impl.Mst{Queue: queueOf(3, 1, 0, 2), Tries: 2, Parted: true, Broken: true} },
		func(b *impl.Bus) { b.Arb = impl.Wrr{At: 0, Credit: 8} }, func(b *impl.Bus) { b.Buckets[1] = impl.Bucket{Tokens: 2, Count: 299} }, func(b *impl.Bus) { b.Log = []impl.Done{} },
	)
	checkChanges(t, b, false,
		func(b *impl.Bus) { b.Now = 4001 }, func(b *impl.Bus) { b.Now, b.Picks, b.Log = -1, -1, nil }, func(b *impl.Bus) { b.Now = 29 },
		func(b *impl.Bus) { b.Now = 11; b.Log = nil }, func(b *impl.Bus) { b.Picks = -1 }, func(b *impl.Bus) { b.Picks = 31 },
		func(b *impl.Bus) { b.Last = -2 }, func(b *impl.Bus) { b.Last = 3 }, func(b *impl.Bus) { b.Splits[1] = 6 }, func(b *impl.Bus) { b.Splits[2] = -1 },
		func(b *impl.Bus) { b.M[1] = impl.Mst{Queue: queueOf(1), Tries: 3} }, func(b *impl.Bus) { b.M[1] = impl.Mst{Queue: queueOf(1), Tries: -1} },
		func(b *impl.Bus) { b.M[1].Parted = true },
		func(b *impl.Bus) { b.Arb = impl.Wrr{At: 0, Credit: 9} }, func(b *impl.Bus) { b.Arb = impl.Wrr{At: 3} },
		func(b *impl.Bus) { b.Buckets[1] = impl.Bucket{Tokens: 3} }, func(b *impl.Bus) { b.Buckets[1].Count = 300 },
		func(b *impl.Bus) { b.Buckets[0].Tokens = 1 },
		func(b *impl.Bus) { b.Held = 1 }, func(b *impl.Bus) { b.Held = -1 }, func(b *impl.Bus) { b.Holder = 0 }, func(b *impl.Bus) { b.Holder = -2 }, func(b *impl.Bus) { b.Holder = 3 },
		func(b *impl.Bus) { b.M[0] = impl.Mst{Queue: queueOf(1), Beat: 1} }, func(b *impl.Bus) { b.Addr.Who = 1 }, func(b *impl.Bus) { b.Addr.First = true },
		func(b *impl.Bus) { b.Data.By = 1 }, func(b *impl.Bus) { b.Data.Second = true }, func(b *impl.Bus) { b.Data.Left = 1 },
		func(b *impl.Bus) { b.Addr.Live = true },
		func(b *impl.Bus) { b.Model.Mem[191] = 256 }, func(b *impl.Bus) { b.Model = impl.Model{} },
	)
	checkChanges(t, b, false, listChanges()[:9]...)
}

// The same with two beats on their way.
func TestBusOkExamplesOfBeats(t *testing.T) {
	b := granted(wantingBus(busConfs()[2], 1, 0), 0, 2)
	checkBus(t, b, true)
	checkChanges(t, b, true,
		func(b *impl.Bus) { b.Addr.By, b.Data.By = 1, 3 }, func(b *impl.Bus) { b.Addr.First, b.Data.First = true, true }, func(b *impl.Bus) { b.Data.Left = 3 },
		func(b *impl.Bus) { b.Data.Resp = impl.ReError },
		func(b *impl.Bus) { b.Data.Resp, b.M[0].Tries = impl.ReRetry, 1 }, func(b *impl.Bus) { b.Data.Resp = impl.ReSplit }, func(b *impl.Bus) { b.Splits[1] = 5 }, func(b *impl.Bus) { b.M[1] = impl.Mst{} },
		func(b *impl.Bus) {
			b.Addr = impl.Beat{}
			b.M[2].Beat = 1
			b.Data.Second = true
			b.Data.Resp = impl.ReRetry
		},
		func(b *impl.Bus) { b.Data = impl.Beat{}; b.M[0].Beat = 1 },
	)
	checkChanges(t, b, false,
		func(b *impl.Bus) { b.Addr.By = 0 }, func(b *impl.Bus) { b.Addr.By = 4 }, func(b *impl.Bus) { b.Data.By = 0 }, func(b *impl.Bus) { b.Data.By = 4 },
		func(b *impl.Bus) { b.Addr.Left = 1 }, func(b *impl.Bus) { b.Addr.Resp = 1 }, func(b *impl.Bus) { b.Addr.Second = true },
		func(b *impl.Bus) { b.Addr.Who = 0 }, func(b *impl.Bus) { b.Addr.Who = 3 }, func(b *impl.Bus) { b.Data.Who = -1 }, func(b *impl.Bus) { b.Addr.Beat = 2 },
		func(b *impl.Bus) { b.Addr.Beat = 0 }, func(b *impl.Bus) { b.Data.Beat = 0 }, func(b *impl.Bus) { b.Data.Beat = 2 },
		func(b *impl.Bus) { b.Data.Left = 4 }, func(b *impl.Bus) { b.Data.Left = -1 }, func(b *impl.Bus) { b.Data.Resp = 4 },
		func(b *impl.Bus) { b.Data.Resp = -1 }, func(b *impl.Bus) { b.Data.Resp, b.M[0].Tries = impl.ReRetry, 2 },
		func(b *impl.Bus) { b.Data.Resp, b.M[0].Parted = impl.ReSplit, true },
		func(b *impl.Bus) { b.Data.Resp, b.Data.Second = impl.ReError, true }, func(b *impl.Bus) { b.Splits[0] = 1 }, func(b *impl.Bus) { b.Splits[2] = 1 },
		func(b *impl.Bus) { b.Addr = impl.Beat{} }, func(b *impl.Bus) { b.Data = impl.Beat{} }, func(b *impl.Bus) { b.Addr.Live = false },
		func(b *impl.Bus) { b.M[1].Beat = 2 },
		func(b *impl.Bus) { b.Addr, b.Data = b.Data, b.Addr; b.M[0].Beat++ }, func(b *impl.Bus) { b.M[0].Queue[0].Lock = true }, func(b *impl.Bus) { b.M[2].Queue[0].Lock = true },
		func(b *impl.Bus) { b.Addr = impl.Beat{}; b.M[2].Beat = 1; b.Data.Second = true },
		func(b *impl.Bus) {
			b.Addr = impl.Beat{}
			b.M[2].Beat, b.Data.Second, b.Data.Resp, b.Data.Left = 1, true, 1, 1
		},
	)
}

// Two beats of one master are on their way in their order.
func TestBusOkOfTwoBeatsOfAMaster(t *testing.T) {
	for _, c := range busConfs() {
		for who := range c.Masters {
			b := granted(wantingBus(c, 1, 0), who, who)
			checkBus(t, b, true)
			checkChanges(t, b, false,
				func(b *impl.Bus) { b.Addr, b.Data = b.Data, b.Addr }, func(b *impl.Bus) { b.Addr.Beat = 1 }, func(b *impl.Bus) { b.Data.Beat = 2 }, func(b *impl.Bus) { b.M[who].Beat = 2 },
				func(b *impl.Bus) { b.M[who].Done = 2 }, func(b *impl.Bus) { b.Addr = impl.Beat{} }, func(b *impl.Bus) { b.Data = impl.Beat{} }, func(b *impl.Bus) { b.M[who].Queue = b.M[who].Queue[1:] },
			)
		}
	}
}

func TestBusOkOfEveryFlight(t *testing.T) {
	for _, c := range busConfs() {
		good := 0
		forEachFlight(c, func(b impl.Bus) {
			want := wantBusOk(b)
			if want {
				good++
			}
			if got := impl.BusOk(b); got != want {
				t.Errorf("BusOk(%v) = %v", b, got)
			}
		})
		if good < 20 {
			t.Errorf("only %d buses of %v are valid", good, c)
		}
	}
}

func TestBusOkAfterEveryChange(t *testing.T) {
	for _, b := range someBuses() {
		checkBus(t, b, true)
		forEachChange(b, func(other impl.Bus) { checkBus(t, other, wantBusOk(other)) })
	}
}

// Every answer to the beat in the data phase, with everything that decides
// whether it is possible.
func TestBusOkOfEveryAnswer(t *testing.T) {
	for _, c := range busConfs() {
		for bits := range 32 {
			flag := func(i int) bool { return bits>>i&1 == 1 }
			addr := -1
			if flag(0) {
				addr = len(c.Masters) - 1
			}
			b := granted(wantingBus(c, 1, bits>>1&1), 0, addr)
			b.Holder = -1 + bits>>1&1
			b.Data.Second, b.M[0].Parted, b.M[0].Broken = flag(2), flag(3), flag(4)
			for b.M[0].Tries = 0; b.M[0].Tries <= c.MaxRetry; b.M[0].Tries++ {
				for b.Data.Resp = -2; b.Data.Resp < 6; b.Data.Resp++ {
					for b.Data.Left = -2; b.Data.Left < c.MaxWait+6; b.Data.Left++ {
						checkBus(t, b, wantBusOk(b))
					}
				}
			}
		}
	}
}

// A number of the state may be valid only together with another one.
func TestBusOkAfterTwoChanges(t *testing.T) {
	var bases []impl.Bus
	for _, c := range busConfs()[:2] {
		last := len(c.Masters) - 1
		bases = append(bases, granted(wantingBus(c, 1, 0), 0, last), lockBegun(c, last, 0), wantingBus(c, 0, 3))
	}
	values := []int{-1, 0, 1, 2, 3}
	for _, base := range bases {
		numbers := len(stateNumbers(&base))
		for i := range numbers * numbers {
			b := cloneBus(base)
			first, second := stateNumbers(&b)[i/numbers], stateNumbers(&b)[i%numbers]
			for j := range len(values) * len(values) {
				*first, *second = values[j/len(values)], values[j%len(values)]
				if got := impl.BusOk(b); got != wantBusOk(b) {
					t.Errorf("BusOk(%v) = %v", b, got)
				}
			}
		}
	}
}

// lockBegun returns a bus on which the lock of a master has just begun, while
// the beat of another master, or none if it is the same, is in its data phase.
func lockBegun(c impl.Conf, who, before int) impl.Bus {
	if before == who {
		before = -1
	}
	b := granted(wantingBus(c, 0, 1<<who), before, who)
	b.Holder = who
	return b
}

// forEachLockBegun calls f for every master and every beat before its lock.
func forEachLockBegun(f func(c impl.Conf, who, before int, b impl.Bus)) {
	for _, c := range busConfs() {
		for who := range c.Masters {
			for before := range c.Masters {
				f(c, who, before, lockBegun(c, who, before))
			}
		}
	}
}

// The edge case of the stage: with the first beat of a request with a lock,
// its master is the Holder, and has not held the bus for any cycle.
func TestLockThatHasJustBegun(t *testing.T) {
	forEachLockBegun(func(c impl.Conf, who, before int, b impl.Bus) {
		checkBus(t, b, true)
		if b.Held != 0 || b.Addr.Beat != 0 || !b.Addr.First {
			t.Errorf("the lock does not begin: %v", b)
		}
		for held := -3; held < c.LockMost+4; held++ {
			checkChanges(t, b, held >= 0 && held <= c.LockMost, func(b *impl.Bus) { b.Held = held })
		}
		for by := -2; by < 7; by++ {
			checkChanges(t, b, by >= 1 && by <= 3, func(b *impl.Bus) { b.Addr.By = by })
		}
		for holder := -3; holder < 7; holder++ {
			checkChanges(t, b, holder == who, func(b *impl.Bus) { b.Holder = holder })
			checkChanges(t, b, holder == who, func(b *impl.Bus) { b.Holder, b.Held = holder, 1 })
		}
		for other := range c.Masters {
			free := other != who && (other != before || before == who)
			checkChanges(t, b, free, func(b *impl.Bus) { b.Splits[other] = 1 }, func(b *impl.Bus) { b.M[other] = impl.Mst{} })
			// The other masters may want a lock, but must not have begun one.
			checkChanges(t, b, free || other == who, func(b *impl.Bus) { b.M[other].Queue[0].Lock = true })
		}
	})
}

// Without a lock, or with a broken one, no master holds the bus.
func TestRequestsThatDoNotBeginALock(t *testing.T) {
	forEachLockBegun(func(c impl.Conf, who, before int, b impl.Bus) {
		for i, change := range []func(b *impl.Bus){
			func(b *impl.Bus) { b.M[who].Queue[0].Lock = false }, // that of the second request does not count yet
			func(b *impl.Bus) { b.M[who].Broken = true },
			func(b *impl.Bus) { b.M[who].Queue[0].Lock = false; b.M[who].Broken = true },
		} {
			other := cloneBus(b)
			change(&other)
			checkBus(t, other, false)
			other.Holder = -1
			checkBus(t, other, true)
			other.Held = 1
			checkBus(t, other, false)
			if !other.M[who].Queue[1].Lock {
				t.Errorf("change %d: the second request of %v has no lock", i, other)
			}
		}
	})
}

// A lock whose first beat is revoked may go on or not; a master that only
// waits for its lock need not hold the bus.
func TestLockWhoseFirstBeatIsRevoked(t *testing.T) {
	forEachLockBegun(func(c impl.Conf, who, before int, b impl.Bus) {
		b.Addr, b.M[who].Beat = impl.Beat{}, 0
		checkBus(t, b, true)
		checkChanges(t, b, true, func(b *impl.Bus) { b.Holder = -1 }, func(b *impl.Bus) { b.Held = c.LockMost }, func(b *impl.Bus) { b.Holder, b.Splits[who] = -1, 1 })
		checkChanges(t, b, false,
			func(b *impl.Bus) { b.Holder, b.Held = -1, 1 }, func(b *impl.Bus) { b.Held = c.LockMost + 1 }, func(b *impl.Bus) { b.Splits[who] = 1 },
			func(b *impl.Bus) { b.M[who].Queue[0].Lock = false }, func(b *impl.Bus) { b.M[who].Broken = true }, func(b *impl.Bus) { b.M[who] = impl.Mst{} },
		)
	})
}

// The Holder is not split, but the master before it is, and the Holder may be
// told to retry.
func TestAnswersWhenALockHasJustBegun(t *testing.T) {
	forEachLockBegun(func(c impl.Conf, who, before int, b impl.Bus) {
		for resp := range 4 {
			if before != who {
				checkChanges(t, b, resp != impl.ReRetry || c.MaxRetry > 0, func(b *impl.Bus) { b.Data.Resp = resp })
				checkChanges(t, b, false, func(b *impl.Bus) { b.Data.Resp, b.Data.Second = resp, true })
			}
			want := resp < impl.ReRetry || resp == impl.ReRetry && c.MaxRetry > 0
			next := granted(wantingBus(c, 0, 1<<who), who, who)
			next.Holder, next.Held, next.Data.Resp = who, 1, resp
			checkBus(t, next, want)
			next.M[who].Broken, next.Holder, next.Held = true, -1, 0
			checkBus(t, next, want || resp == impl.ReSplit)
		}
	})
}

// Elements of the log, each alone in the last cycle.
func TestBusOkOfEveryLogElement(t *testing.T) {
	b := busOf(busConfs()[1])
	for _, size := range append(invalidSizes(), 0, 1, 2) {
		for _, addr := range append(outsideAddrs(), 0, 1, 2, 3, 4, 6, 191, 223, 224, 508, 509, 510, 511, 512, 516) {
			for _, v := range []int{-1, 0, 1, 255, 256, 65535, 65536, 1<<32 - 1, 1 << 32, math.MinInt, math.MaxInt} {
				for resp := -1; resp < 5; resp++ {
					b.Log = []impl.Done{{Cycle: 29, Who: 1, Write: v%2 == 0, Addr: addr, Size: size, Value: v, Resp: resp}}
					if got := impl.BusOk(b); got != wantBusOk(b) {
						t.Errorf("BusOk with %v = %v", b.Log, got)
					}
				}
			}
		}
	}
	for who := -3; who < 6; who++ {
		b.Log = []impl.Done{{Cycle: 1}, {Cycle: 2, Who: who}, {Cycle: 3}}
		checkBus(t, b, who == 0 || who == 1)
	}
}

// Promise 7: at most one beat is completed per cycle.
func TestBusOkOfEveryThreeCycles(t *testing.T) {
	b := busOf(busConfs()[0])
	b.Now, b.Picks = 4, 4
	cycles := []int{math.MinInt, -2, -1, 0, 1, 2, 3, 4, 5, 1 << 32, math.MaxInt}
	for _, first := range cycles {
		for _, second := range cycles {
			for _, third := range cycles {
				b.Log = []impl.Done{{Cycle: first}, {Cycle: second}, {Cycle: third}}
				checkBus(t, b, first >= 0 && second > first && third > second && third < 4)
			}
		}
	}
}

// A log can have an element for every cycle, and none before the first cycle.
func TestLongestLogs(t *testing.T) {
	for _, now := range []int{0, 1, 2, 40, 3999, 4000} {
		b := busOf(busConfs()[1])
		b.Now, b.Picks, b.Log = now, now, nil
		for cycle := range now {
			b.Log = append(b.Log, impl.Done{Cycle: cycle, Who: cycle % 2, Addr: cycle % 512})
		}
		checkBus(t, b, true)
		checkChanges(t, b, false, func(b *impl.Bus) { b.Log = append(b.Log, impl.Done{Cycle: now}) }, func(b *impl.Bus) { b.Log = append(b.Log, impl.Done{Cycle: now - 1}) })
		if now > 0 {
			checkChanges(t, b, true, func(b *impl.Bus) { b.Log = b.Log[1:] }, func(b *impl.Bus) { b.Log = b.Log[:now-1] })
			checkChanges(t, b, false, func(b *impl.Bus) { b.Log[now/2].Who = 2 }, func(b *impl.Bus) { b.Log[now-1].Value = 256 })
		}
	}
}

// A bus is idle when no master has a request, whatever else goes on.
func TestIdleBusExamples(t *testing.T) {
	for _, c := range busConfs() {
		b := busOf(c)
		checkBus(t, b, true)
		for who := range c.Masters {
			other := cloneBus(b)
			other.M[who].Queue = queueOf(2)
			if impl.IdleBus(other) || !impl.BusOk(other) {
				t.Errorf("%v with a request of master %d is idle or invalid", c, who)
			}
			other = cloneBus(b)
			other.Splits[who] = c.MaxSplit
			other.M[who].Queue = []impl.Req{}
			if !impl.IdleBus(other) {
				t.Errorf("%v with a master %d that may not return is not idle", c, who)
			}
		}
		b.Picks = -1
		if impl.IdleBus(b) || impl.IdleBus(impl.Bus{}) {
			t.Error("an invalid bus is idle")
		}
	}
}

// A change to each field makes a difference, even to an invalid bus.
func TestSameBusComparesEachField(t *testing.T) {
	for i, b := range someBuses() {
		if i%2 == 1 {
			b.Now, b.Data.Who, b.Log = -7, 99, []impl.Done{{Size: 77}}
		}
		if !impl.SameBus(b, roomyBus(b)) || !impl.SameBus(roomyBus(b), b) {
			t.Errorf("SameBus(%v) of a copy is false", b)
		}
		forEachChange(b, func(other impl.Bus) {
			if sameBusFields(b, other) {
				return // nil in place of an empty list
			}
			if impl.SameBus(b, other) || impl.SameBus(other, b) {
				t.Errorf("SameBus(%v, %v) is true", b, other)
			}
		})
		for at := range b.Model.Mem {
			other := cloneBus(b)
			other.Model.Mem[at]++
			if impl.SameBus(b, other) {
				t.Errorf("SameBus with another byte at %d is true", at)
			}
		}
	}
}

func TestSameBusOfAnyBuses(t *testing.T) {
	l := append(append(someBuses(), handRun()...), impl.Bus{}, impl.Bus{Holder: -1, Last: -1}, impl.Bus{M: []impl.Mst{{}}}, impl.Bus{Log: []impl.Done{}})
	for _, a := range l {
		for _, b := range l {
			if got := impl.SameBus(a, b); got != sameBusFields(a, b) {
				t.Errorf("SameBus(%v, %v) = %v", a, b, got)
			}
		}
	}
}

// roomyBus returns a copy that has capacity left behind each of its lists.
func roomyBus(b impl.Bus) impl.Bus {
	b = cloneBus(b)
	b.Conf.Masters = append(b.Conf.Masters, impl.MConf{Weight: 71})[:len(b.Conf.Masters)]
	for i, m := range b.M {
		b.M[i] = roomyMst(m)
	}
	b.M = append(b.M, impl.Mst{Tries: 72})[:len(b.M)]
	b.Buckets = append(b.Buckets, impl.Bucket{Count: 73})[:len(b.Buckets)]
	b.Splits = append(b.Splits, 74)[:len(b.Splits)]
	b.Log = append(b.Log, impl.Done{Value: 75})[:len(b.Log)]
	for _, list := range []*[]int{&b.Model.Mem, &b.Model.Dev.Regs, &b.Model.Dev.Fifo} {
		*list = append(*list, 76)[:len(*list)]
	}
	return b
}

// wholeBus returns the bus with all the capacity of its lists.
func wholeBus(b impl.Bus) impl.Bus {
	b.Conf.Masters = b.Conf.Masters[:cap(b.Conf.Masters)]
	b.M = slices.Clone(b.M[:cap(b.M)])
	for i, m := range b.M {
		b.M[i] = wholeMst(m)
	}
	b.Buckets, b.Splits, b.Log = b.Buckets[:cap(b.Buckets)], b.Splits[:cap(b.Splits)], b.Log[:cap(b.Log)]
	for _, list := range []*[]int{&b.Model.Mem, &b.Model.Dev.Regs, &b.Model.Dev.Fifo} {
		*list = (*list)[:cap(*list)]
	}
	return b
}

func TestBusFunctionsKeepTheirArguments(t *testing.T) {
	for i, b := range append(someBuses(), handRun()...) {
		if i%3 == 2 {
			b.Data.Who, b.Holder = 1-b.Data.Who, 0
		}
		b, other := roomyBus(b), roomyBus(b)
		kept := cloneBus(wholeBus(b))
		for j, call := range []func(){
			func() { impl.BusOk(b) }, func() { impl.IdleBus(b) }, func() { impl.BusNew(b.Conf) },
			func() { impl.SameBus(b, other) }, func() { impl.SameBus(other, b) }, func() { impl.SameBus(b, b) },
		} {
			call()
			if !sameBusFields(wholeBus(b), kept) || !sameBusFields(wholeBus(other), kept) {
				t.Errorf("call %d changes %v to %v or %v", j, kept, wholeBus(b), wholeBus(other))
			}
		}
	}
}
