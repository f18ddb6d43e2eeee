package tests

import (
	"math"
	"slices"
	"testing"

	"loop.example/g01623/impl"
)

// queueOf returns valid requests with these bursts: reads and writes of
// different sizes in different pages, of which the wrapping ones wrap.
func queueOf(bursts ...int) []impl.Req {
	var l []impl.Req
	for i, burst := range bursts {
		size := (i + 2) % 3
		r := impl.Req{Addr: 64*i + 1<<size, Size: size, Burst: burst, Lock: i%3 == 1, Write: i%2 == 0}
		if r.Write {
			r.Data = dataFor(size, []int{1, 4, 4, 8}[burst], 5*i)
		}
		l = append(l, r)
	}
	return l
}

// forEachPlace calls f with every position in a request with n beats.
func forEachPlace(n int, f func(beat, done int)) {
	for done := range n {
		f(done, done)
		f(done+1, done)
		if done+2 <= n {
			f(done+2, done)
		}
	}
}

// forEachMst calls f with the master without requests, and with masters of
// every burst, length of the queue, position and mix of the other fields.
func forEachMst(f func(m impl.Mst)) {
	f(impl.Mst{})
	for burst, n := range []int{1, 4, 4, 8} {
		for length := 1; length <= 4; length++ {
			queue := queueOf([]int{burst, (burst + length) % 4, 0, 3}[:length]...)
			forEachPlace(n, func(beat, done int) {
				for bits := range 16 {
					tries := []int{0, 1, 3, math.MaxInt}[bits>>2]
					f(impl.Mst{Queue: queue, Beat: beat, Done: done, Tries: tries, Parted: bits&1 == 1, Broken: bits&2 == 2})
				}
			})
		}
	}
}

// invalidReqs returns requests that are invalid because of one field each.
func invalidReqs() []impl.Req {
	return []impl.Req{
		{Addr: 2, Size: 2}, {Addr: 1, Size: 1}, {Addr: -4, Size: 2}, {Addr: 512}, {Addr: 512, Size: 2}, {Addr: math.MinInt, Size: 2},
		{Size: 3}, {Size: -1}, {Burst: 4}, {Burst: -1}, {Addr: 60, Size: 2, Burst: impl.BuFour}, {Addr: 511, Burst: impl.BuFour}, {Addr: 61, Burst: impl.BuEight},
		{Data: []int{1}}, {Write: true}, {Write: true, Data: []int{1, 2}}, {Write: true, Burst: impl.BuWrap, Data: []int{1, 2, 3}},
		{Write: true, Data: []int{256}}, {Write: true, Data: []int{-1}}, {Write: true, Size: 2, Burst: impl.BuFour, Data: []int{1, 2, 3, 1 << 32}},
	}
}

// farNumbers returns numbers that are no beat of any request, among them ones
// whose low bits are.
func farNumbers() []int {
	return []int{math.MinInt, math.MinInt + 1, math.MinInt + 2, -1 << 32, -8, -3, -2, -1, 11, 64, 1 << 32, 1<<32 + 1, math.MaxInt - 2, math.MaxInt - 1, math.MaxInt}
}

// inconsistentMsts returns masters that are inconsistent because of one field
// or of one request.
func inconsistentMsts() []impl.Mst {
	l := []impl.Mst{{Beat: 1}, {Beat: -1}, {Done: 1}, {Done: -1}, {Beat: 1, Done: 1}, {Beat: 1, Done: -1}, {Tries: 1}, {Tries: -1}, {Parted: true}, {Broken: true}, {Queue: []impl.Req{}, Beat: 1}, {Tries: math.MaxInt}}
	for _, length := range []int{5, 6, 20} {
		queue := queueOf(make([]int, length)...)[:length]
		for i := range queue {
			queue[i].Addr = 0
		}
		l = append(l, impl.Mst{Queue: queue}, impl.Mst{Queue: queue, Beat: 1})
	}
	for _, r := range invalidReqs() {
		for at := range 4 {
			queue := queueOf(3, 2, 1, 3)
			queue[at] = r
			l = append(l, impl.Mst{Queue: queue}, impl.Mst{Queue: queue[:at+1], Beat: 1})
		}
		l = append(l, impl.Mst{Queue: []impl.Req{r}})
	}
	for burst, n := range []int{1, 4, 4, 8} {
		queue := queueOf(burst, 3)
		for _, tries := range []int{-1, -2, math.MinInt} {
			l = append(l, impl.Mst{Queue: queue, Tries: tries}, impl.Mst{Queue: queue, Beat: 1, Tries: tries, Parted: true})
		}
		for _, far := range farNumbers() {
			l = append(l, impl.Mst{Queue: queue, Beat: far}, impl.Mst{Queue: queue, Done: far}, impl.Mst{Queue: queue, Beat: far, Done: far}, impl.Mst{Queue: queue, Beat: far + 1, Done: far}, impl.Mst{Queue: queue, Beat: far + 2, Done: far}, impl.Mst{Queue: queue, Beat: n, Done: far})
		}
	}
	return l
}

func cloneMst(m impl.Mst) impl.Mst {
	m.Queue = slices.Clone(m.Queue)
	for i := range m.Queue {
		m.Queue[i].Data = slices.Clone(m.Queue[i].Data)
	}
	return m
}

// sameMstFields compares masters without the program.
func sameMstFields(a, b impl.Mst) bool {
	return slices.EqualFunc(a.Queue, b.Queue, sameFields) && a.Beat == b.Beat && a.Done == b.Done && a.Tries == b.Tries && a.Parted == b.Parted && a.Broken == b.Broken
}

// roomyMst returns a copy that has capacity left behind each of its lists.
func roomyMst(m impl.Mst) impl.Mst {
	queue := cloneMst(m).Queue
	for i := range queue {
		length := len(queue[i].Data)
		queue[i].Data = append(queue[i].Data, 71, 72, 73)[:length]
	}
	m.Queue = append(queue, impl.Req{Addr: 9}, impl.Req{Write: true, Data: []int{74}})[:len(queue)]
	return m
}

// wholeMst returns the master with all the capacity of its lists.
func wholeMst(m impl.Mst) impl.Mst {
	m.Queue = slices.Clone(m.Queue[:cap(m.Queue)])
	for i, r := range m.Queue {
		m.Queue[i].Data = r.Data[:cap(r.Data)]
	}
	return m
}

// checkSeparate overwrites all lists of a result, and checks that none of them
// is a part of another one.
func checkSeparate(t *testing.T, m impl.Mst) {
	t.Helper()
	for i, r := range m.Queue {
		for j := range r.Data[:cap(r.Data)] {
			r.Data[:cap(r.Data)][j] = 1000 + i
		}
	}
	for i, r := range m.Queue {
		for _, v := range r.Data[:cap(r.Data)] {
			if v != 1000+i {
				t.Errorf("two requests of a master share their data: %v", m)
			}
		}
	}
	clear(m.Queue[:cap(m.Queue)])
}

// mstStep is a function that changes a master, with what it has to return for
// a consistent one.
type mstStep struct {
	name string
	do   func(m impl.Mst) (impl.Mst, bool)
	want func(m impl.Mst) (impl.Mst, bool)
}

// postStep posts r, which is valid or not.
func postStep(r impl.Req, valid bool) mstStep {
	do := func(m impl.Mst) (impl.Mst, bool) { return impl.MstPost(m, r) }
	return mstStep{"MstPost", do, func(m impl.Mst) (impl.Mst, bool) {
		if !valid || len(m.Queue) == 4 {
			return m, false
		}
		m.Queue = slices.Concat(m.Queue, []impl.Req{r})
		return m, true
	}}
}

func wantIssue(m impl.Mst) (impl.Mst, bool) {
	if !wantWants(m) || m.Beat-m.Done == 2 {
		return m, false
	}
	m.Beat++
	return m, true
}

func wantRevoke(m impl.Mst) (impl.Mst, bool) {
	if m.Beat-m.Done == 0 {
		return m, false
	}
	m.Beat--
	return m, true
}

func wantEnd(m impl.Mst) (impl.Mst, bool) {
	if m.Beat-m.Done == 0 {
		return m, false
	}
	if rest := len(wantBeats(m)) - m.Done; rest == 1 {
		return impl.Mst{Queue: m.Queue[1:]}, true
	}
	return impl.Mst{Queue: m.Queue, Beat: m.Beat, Done: m.Done + 1, Broken: m.Broken}, true
}

// wantBeats returns the addresses of the beats of the first request.
func wantBeats(m impl.Mst) []int {
	if len(m.Queue) == 0 {
		return nil
	}
	r := m.Queue[0]
	return wantAddrs(r.Addr, r.Size, r.Burst)
}

func wantWants(m impl.Mst) bool {
	return len(wantBeats(m)) != m.Beat
}

func mstSteps() []mstStep {
	l := []mstStep{
		postStep(impl.Req{}, true), postStep(queueOf(3)[0], true), postStep(queueOf(0, 2)[1], true), postStep(queueOf(0, 1, 2)[2], true),
		{"MstIssue", impl.MstIssue, wantIssue}, {"MstBack", impl.MstBack, wantRevoke}, {"MstEnd", impl.MstEnd, wantEnd},
	}
	for _, r := range invalidReqs() {
		l = append(l, postStep(r, false))
	}
	return l
}

// checkMstStep checks what a step returns, that it keeps its argument, and
// that the result is new memory.
func checkMstStep(t *testing.T, step mstStep, m, want impl.Mst, wantOk bool) {
	t.Helper()
	want = cloneMst(want)
	m = roomyMst(m)
	kept := cloneMst(wholeMst(m))
	got, ok := step.do(m)
	if !sameMstFields(got, want) || ok != wantOk {
		t.Errorf("%s(%v) = %v, %v, want %v, %v", step.name, m, got, ok, want, wantOk)
	}
	if !sameMstFields(wholeMst(m), kept) {
		t.Errorf("%s(%v) changes its argument to %v", step.name, kept, wholeMst(m))
	}
	checkSeparate(t, got)
	if !sameMstFields(wholeMst(m), kept) {
		t.Errorf("%s(%v) returns memory of its argument", step.name, kept)
	}
}

// checkKnown checks what is known about a consistent master.
func checkKnown(t *testing.T, m impl.Mst) {
	t.Helper()
	if got := impl.MstWants(m); got != wantWants(m) {
		t.Errorf("MstWants(%v) = %v", m, got)
	}
	beats := wantBeats(m)
	for beat := -3; beat < 12; beat++ {
		want := -1
		if beat >= 0 && beat < len(beats) {
			want = beats[beat]
		}
		if got := impl.MstAddr(m, beat); got != want {
			t.Errorf("MstAddr(%v, %d) = %d, want %d", m, beat, got, want)
		}
	}
	for _, beat := range farNumbers() {
		if got := impl.MstAddr(m, beat); got != -1 {
			t.Errorf("MstAddr(%v, %d) = %d, want -1", m, beat, got)
		}
	}
}

// checkInconsistent checks that no function uses a master that is inconsistent.
func checkInconsistent(t *testing.T, m impl.Mst) {
	t.Helper()
	for _, c := range validConfs() {
		if impl.MstOk(m, c) {
			t.Errorf("MstOk(%v, %v) is true", m, c)
		}
	}
	if impl.MstWants(m) {
		t.Errorf("MstWants(%v) is true", m)
	}
	for _, beat := range append(farNumbers(), m.Beat, m.Done, 0, 1, 2, 3, 4, 7, 8) {
		if got := impl.MstAddr(m, beat); got != -1 {
			t.Errorf("MstAddr(%v, %d) = %d, want -1", m, beat, got)
		}
	}
	for _, step := range mstSteps() {
		checkMstStep(t, step, m, m, false)
	}
}

func retryConf(retries int) impl.Conf {
	return impl.Conf{Masters: []impl.MConf{{Weight: 1}}, Quantum: 1, MaxRetry: retries, MaxSplit: 1, LockMost: 1}
}

func TestMostRequestsOfAMaster(t *testing.T) {
	if impl.MaxQueue != 4 {
		t.Error(impl.MaxQueue)
	}
}

// One burst of four beats and one of a single beat, step by step.
func TestMasterExample(t *testing.T) {
	post := func(r impl.Req) func(impl.Mst) (impl.Mst, bool) {
		return func(m impl.Mst) (impl.Mst, bool) { return impl.MstPost(m, r) }
	}
	four, one := impl.Req{Addr: 8, Size: 2, Burst: impl.BuFour}, impl.Req{Addr: 6, Size: 1}
	both, last := []impl.Req{four, one}, []impl.Req{one}
	var m impl.Mst
	for i, x := range []struct {
		do    func(impl.Mst) (impl.Mst, bool)
		ok    bool
		want  impl.Mst
		wants bool
	}{
		{impl.MstIssue, false, impl.Mst{}, false},
		{impl.MstBack, false, impl.Mst{}, false},
		{impl.MstEnd, false, impl.Mst{}, false},
		{post(four), true, impl.Mst{Queue: both[:1]}, true},
		{impl.MstBack, false, impl.Mst{Queue: both[:1]}, true},
		{impl.MstEnd, false, impl.Mst{Queue: both[:1]}, true},
		{impl.MstIssue, true, impl.Mst{Queue: both[:1], Beat: 1}, true},
		{post(one), true, impl.Mst{Queue: both, Beat: 1}, true},
		{impl.MstIssue, true, impl.Mst{Queue: both, Beat: 2}, true},
		{impl.MstIssue, false, impl.Mst{Queue: both, Beat: 2}, true},
		{impl.MstBack, true, impl.Mst{Queue: both, Beat: 1}, true},
		{impl.MstIssue, true, impl.Mst{Queue: both, Beat: 2}, true},
		{impl.MstEnd, true, impl.Mst{Queue: both, Beat: 2, Done: 1}, true},
		{impl.MstIssue, true, impl.Mst{Queue: both, Beat: 3, Done: 1}, true},
		{impl.MstEnd, true, impl.Mst{Queue: both, Beat: 3, Done: 2}, true},
		{impl.MstEnd, true, impl.Mst{Queue: both, Beat: 3, Done: 3}, true},
		{impl.MstEnd, false, impl.Mst{Queue: both, Beat: 3, Done: 3}, true},
		{impl.MstIssue, true, impl.Mst{Queue: both, Beat: 4, Done: 3}, false},
		{impl.MstIssue, false, impl.Mst{Queue: both, Beat: 4, Done: 3}, false},
		{impl.MstEnd, true, impl.Mst{Queue: last}, true},
		{impl.MstIssue, true, impl.Mst{Queue: last, Beat: 1}, false},
		{impl.MstIssue, false, impl.Mst{Queue: last, Beat: 1}, false},
		{impl.MstEnd, true, impl.Mst{}, false},
		{impl.MstEnd, false, impl.Mst{}, false},
	} {
		next, ok := x.do(m)
		if !sameMstFields(next, x.want) || ok != x.ok || impl.MstWants(next) != x.wants {
			t.Errorf("step %d changes %v to %v, %v", i, m, next, ok)
		}
		m = next
	}
}

func TestMstAddrExamples(t *testing.T) {
	for _, x := range []struct {
		r    impl.Req
		want []int
	}{
		{impl.Req{Addr: 511}, []int{511, -1}},
		{impl.Req{Addr: 8, Size: 2, Burst: impl.BuWrap}, []int{8, 12, 0, 4, -1}},
		{impl.Req{Addr: 6, Size: 1, Burst: impl.BuFour}, []int{6, 8, 10, 12, -1, -1}},
		{impl.Req{Addr: 504, Burst: impl.BuEight}, []int{504, 505, 506, 507, 508, 509, 510, 511, -1}},
	} {
		m, _ := impl.MstPost(impl.Mst{}, x.r)
		for beat, want := range x.want {
			if got := impl.MstAddr(m, beat); got != want {
				t.Errorf("MstAddr(%v, %d) = %d, want %d", m, beat, got, want)
			}
		}
	}
}

// The addresses are those of the first request, whichever beat comes next.
func TestMstAddrEverywhere(t *testing.T) {
	forEachReq(func(r impl.Req) {
		beats := wantAddrs(r.Addr, r.Size, r.Burst)
		m := impl.Mst{Queue: []impl.Req{r, {Addr: 3}}, Beat: 1}
		for beat := -1; beat < 10; beat++ {
			want := -1
			if impl.ReqOk(r) && beat >= 0 && beat < len(beats) {
				want = beats[beat]
			}
			if got := impl.MstAddr(m, beat); got != want {
				t.Errorf("MstAddr(%v, %d) = %d, want %d", m, beat, got, want)
			}
		}
	})
}

func TestEveryConsistentMaster(t *testing.T) {
	forEachMst(func(m impl.Mst) { checkKnown(t, m) })
}

func TestEveryStepOfConsistentMasters(t *testing.T) {
	steps := mstSteps()
	forEachMst(func(m impl.Mst) {
		for _, step := range steps {
			want, ok := step.want(m)
			checkMstStep(t, step, m, want, ok)
		}
	})
}

func TestMstOkLimitsTries(t *testing.T) {
	for retries := range 4 {
		c := retryConf(retries)
		forEachMst(func(m impl.Mst) {
			if got := impl.MstOk(m, c); got != (m.Tries <= retries) {
				t.Errorf("MstOk(%v, %v) = %v", m, c, got)
			}
		})
		for tries := -5; tries <= 9; tries++ {
			m := impl.Mst{Queue: queueOf(1), Tries: tries}
			if got := impl.MstOk(m, c); got != (tries >= 0 && tries <= retries) {
				t.Errorf("MstOk(%v, %v) = %v", m, c, got)
			}
		}
	}
}

func TestMstOkNeedsAValidConf(t *testing.T) {
	for _, c := range append(badWrrConfs(), retryConf(-1), retryConf(4), retryConf(math.MaxInt)) {
		forEachMst(func(m impl.Mst) {
			if impl.MstOk(m, c) {
				t.Errorf("MstOk(%v, %v) is true", m, c)
			}
		})
	}
	for _, c := range validConfs() {
		if !impl.MstOk(impl.Mst{}, c) || !impl.MstOk(impl.Mst{Queue: queueOf(3, 2, 1, 0), Beat: 7, Done: 5, Tries: c.MaxRetry, Parted: true, Broken: true}, c) {
			t.Errorf("a master is not valid with %v", c)
		}
	}
}

func TestInconsistentMasters(t *testing.T) {
	for _, m := range inconsistentMsts() {
		checkInconsistent(t, m)
	}
}

// All positions around those that a request has.
func TestPositionsInTheFirstRequest(t *testing.T) {
	for burst, n := range []int{1, 4, 4, 8} {
		good := map[[2]int]bool{}
		forEachPlace(n, func(beat, done int) { good[[2]int{beat, done}] = true })
		for beat := -3; beat <= n+3; beat++ {
			for done := -3; done <= n+3; done++ {
				m := impl.Mst{Queue: queueOf(burst), Beat: beat, Done: done}
				if !good[[2]int{beat, done}] {
					checkInconsistent(t, m)
				} else if !impl.MstOk(m, retryConf(0)) {
					t.Errorf("MstOk(%v) is false", m)
				}
			}
		}
	}
}

// A queue without elements is the same whether or not it has memory.
func TestEmptyQueues(t *testing.T) {
	for _, queue := range [][]impl.Req{nil, {}, queueOf(1, 2)[:0], queueOf(3)[1:]} {
		m := impl.Mst{Queue: queue}
		checkKnown(t, m)
		if !impl.MstOk(m, retryConf(0)) || !impl.SameMst(m, impl.Mst{}) || !impl.SameMst(impl.Mst{}, m) || impl.MstWants(m) {
			t.Errorf("%v is not the master without requests", m)
		}
		for _, step := range mstSteps() {
			want, ok := step.want(m)
			checkMstStep(t, step, m, want, ok)
		}
		checkInconsistent(t, impl.Mst{Queue: queue, Broken: true})
	}
}

func TestQueuesHaveAtMostFourRequests(t *testing.T) {
	var m impl.Mst
	for i, r := range queueOf(0, 3, 1, 2) {
		next, ok := impl.MstPost(m, r)
		if !ok || len(next.Queue) != i+1 || !sameFields(next.Queue[i], r) {
			t.Fatalf("MstPost(%v, %v) = %v, %v", m, r, next, ok)
		}
		m = next
	}
	if !sameMstFields(m, impl.Mst{Queue: queueOf(0, 3, 1, 2)}) || !impl.MstOk(m, retryConf(0)) {
		t.Errorf("the master is %v", m)
	}
	checkMstStep(t, postStep(impl.Req{}, false), m, m, false)
	m, _ = impl.MstIssue(m)
	checkMstStep(t, postStep(impl.Req{}, false), m, m, false)
	m, _ = impl.MstEnd(m)
	checkMstStep(t, postStep(impl.Req{}, true), m, impl.Mst{Queue: slices.Concat(queueOf(0, 3, 1, 2)[1:], []impl.Req{{}})}, true)
}

func TestEveryRequestCanBePosted(t *testing.T) {
	forEachReq(func(r impl.Req) {
		before := impl.Mst{Queue: queueOf(1), Beat: 2, Done: 1, Tries: 2, Parted: true, Broken: true}
		want := before
		ok := impl.ReqOk(r)
		if ok {
			want.Queue = append(queueOf(1), r)
		}
		if got, gotOk := impl.MstPost(before, r); gotOk != ok || !sameMstFields(got, want) {
			t.Errorf("MstPost(%v, %v) = %v, %v", before, r, got, gotOk)
		}
	})
}

// The edge case of the stage: after the last beat is granted the master wants
// no more beats, not even of the next request; with its completion the request
// is removed and nothing of it remains.
func TestLastBeatOfABurst(t *testing.T) {
	for burst, n := range []int{1, 4, 4, 8} {
		for _, queue := range [][]impl.Req{queueOf(burst), queueOf(burst, 2), queueOf(burst, 0, 1, 3)} {
			for bits := range 4 {
				before := impl.Mst{Queue: queue, Beat: n - 1, Done: n - 1, Tries: 2, Parted: bits&1 == 1, Broken: bits&2 == 2}
				granted := before
				granted.Beat = n
				beats := wantBeats(before)
				if impl.MstAddr(before, n-1) != beats[n-1] || impl.MstAddr(granted, n-1) != beats[n-1] || impl.MstAddr(granted, n) != -1 {
					t.Errorf("the last beat of %v is at %d, then %d", before, impl.MstAddr(before, n-1), impl.MstAddr(granted, n))
				}
				if !impl.MstWants(before) || impl.MstWants(granted) {
					t.Errorf("%v wants %v, then %v", before, impl.MstWants(before), impl.MstWants(granted))
				}
				checkMstStep(t, mstStep{name: "MstIssue", do: impl.MstIssue}, before, granted, true)
				checkMstStep(t, mstStep{name: "MstIssue", do: impl.MstIssue}, granted, granted, false)
				checkMstStep(t, mstStep{name: "MstBack", do: impl.MstBack}, granted, before, true)
				checkMstStep(t, mstStep{name: "MstEnd", do: impl.MstEnd}, before, before, false)
				checkMstStep(t, mstStep{name: "MstEnd", do: impl.MstEnd}, granted, impl.Mst{Queue: queue[1:]}, true)
				checkInconsistent(t, impl.Mst{Queue: queue, Beat: n + 1, Done: n - 1})
				checkInconsistent(t, impl.Mst{Queue: queue, Beat: n, Done: n})
			}
		}
	}
}

// The beat before the last one does not remove the request, although the last
// one may have been granted.
func TestBeatBeforeTheLastOne(t *testing.T) {
	for burst, n := range []int{1, 4, 4, 8} {
		for _, queue := range [][]impl.Req{queueOf(burst), queueOf(burst, 0)} {
			if n == 1 {
				continue
			}
			both := impl.Mst{Queue: queue, Beat: n, Done: n - 2, Tries: 1, Parted: true, Broken: true}
			checkMstStep(t, mstStep{name: "MstEnd", do: impl.MstEnd}, both, impl.Mst{Queue: queue, Beat: n, Done: n - 1, Broken: true}, true)
			checkMstStep(t, mstStep{name: "MstIssue", do: impl.MstIssue}, both, both, false)
			one := both
			one.Beat = n - 1
			checkMstStep(t, mstStep{name: "MstBack", do: impl.MstBack}, both, one, true)
			checkMstStep(t, mstStep{name: "MstEnd", do: impl.MstEnd}, one, impl.Mst{Queue: queue, Beat: n - 1, Done: n - 1, Broken: true}, true)
			checkInconsistent(t, impl.Mst{Queue: queue, Beat: n, Done: n - 3})
		}
	}
}

// Promise 6: revoking a grant restores the state, also after other requests
// have been posted.
func TestRevokingAGrantRestoresTheMaster(t *testing.T) {
	forEachMst(func(m impl.Mst) {
		granted, ok := impl.MstIssue(m)
		if !ok {
			return
		}
		back, ok := impl.MstBack(granted)
		if !ok || !sameMstFields(back, m) {
			t.Errorf("revoking the grant of %v results in %v", m, back)
		}
		posted, ok := impl.MstPost(granted, impl.Req{Addr: 5})
		before, beforeOk := impl.MstPost(m, impl.Req{Addr: 5})
		back, _ = impl.MstBack(posted)
		if ok != beforeOk || !sameMstFields(back, before) {
			t.Errorf("revoking the grant of %v after a post results in %v", m, back)
		}
	})
}

// The same for both grants of the pipeline, which are revoked in the opposite
// order and granted again.
func TestRevokingBothGrantsRestoresTheMaster(t *testing.T) {
	forEachMst(func(m impl.Mst) {
		first, ok := impl.MstIssue(m)
		second, ok2 := impl.MstIssue(first)
		if !ok || !ok2 {
			return
		}
		back, _ := impl.MstBack(second)
		all, ok := impl.MstBack(back)
		if !sameMstFields(back, first) || !ok || !sameMstFields(all, m) {
			t.Errorf("revoking both grants of %v results in %v, then %v", m, back, all)
		}
		again, _ := impl.MstIssue(all)
		if again, _ = impl.MstIssue(again); !sameMstFields(again, second) {
			t.Errorf("granting both beats of %v again results in %v", m, again)
		}
	})
}

// A grant that is revoked after the beat before it has been completed leaves
// the completed beat completed.
func TestRevokingKeepsCompletedBeats(t *testing.T) {
	forEachMst(func(m impl.Mst) {
		if m.Beat-m.Done != 2 {
			return
		}
		ended, _ := impl.MstEnd(m)
		one, _ := impl.MstBack(ended)
		back, _ := impl.MstBack(m)
		want, ok := impl.MstEnd(back)
		if !ok || !sameMstFields(one, want) {
			t.Errorf("%v becomes %v or %v", m, one, want)
		}
	})
}

// orderedBeat is one beat of a request that has been posted.
type orderedBeat struct {
	req  int
	beat int
	addr int
}

// orderRun executes random steps on a master, and keeps the beats of all
// requests in the order in which they have to be granted and completed.
type orderRun struct {
	t         *testing.T
	m         impl.Mst
	beats     []orderedBeat
	posted    int
	granted   int
	completed int
}

func (o *orderRun) post(r impl.Req) {
	next, ok := impl.MstPost(o.m, r)
	if ok {
		for beat, addr := range wantAddrs(r.Addr, r.Size, r.Burst) {
			o.beats = append(o.beats, orderedBeat{o.posted, beat, addr})
		}
		o.posted++
	}
	if ok != (len(o.m.Queue) < 4) {
		o.t.Fatalf("MstPost(%v, %v) = %v, %v", o.m, r, next, ok)
	}
	o.m = next
}

// canGrant reports whether the next beat belongs to the first request that is
// not completed, and fewer than two beats are under way.
func (o *orderRun) canGrant() bool {
	return o.granted < len(o.beats) && o.granted-o.completed < 2 && o.beats[o.granted].req == o.beats[o.completed].req
}

func (o *orderRun) issue() {
	want := o.canGrant()
	addr := impl.MstAddr(o.m, o.m.Beat)
	next, ok := impl.MstIssue(o.m)
	if ok != want || ok && addr != o.beats[o.granted].addr {
		o.t.Fatalf("MstIssue(%v) = %v, %v with address %d", o.m, next, ok, addr)
	}
	if ok {
		o.granted++
	}
	o.m = next
}

func (o *orderRun) back() {
	next, ok := impl.MstBack(o.m)
	if ok != (o.granted > o.completed) {
		o.t.Fatalf("MstBack(%v) = %v, %v", o.m, next, ok)
	}
	if ok {
		o.granted--
	}
	o.m = next
}

func (o *orderRun) end() {
	addr := impl.MstAddr(o.m, o.m.Done)
	next, ok := impl.MstEnd(o.m)
	if ok != (o.granted > o.completed) || ok && addr != o.beats[o.completed].addr {
		o.t.Fatalf("MstEnd(%v) = %v, %v with address %d", o.m, next, ok, addr)
	}
	if ok {
		o.completed++
	}
	o.m = next
}

// check compares the master with the position among all beats.
func (o *orderRun) check() {
	first, done := o.posted, 0
	if o.completed < len(o.beats) {
		first, done = o.beats[o.completed].req, o.beats[o.completed].beat
	}
	if len(o.m.Queue) != o.posted-first || o.m.Done != done || o.m.Beat != done+o.granted-o.completed || !impl.MstOk(o.m, retryConf(0)) {
		o.t.Fatalf("after %d beats of %d, with %d granted, the master is %v", o.completed, len(o.beats), o.granted, o.m)
	}
}

// Promise 6: the beats of a master are granted and completed in order, with
// requests that are posted and grants that are revoked at any time.
func TestBeatsAreGrantedAndCompletedInOrder(t *testing.T) {
	seed := uint32(7)
	random := func(n int) int {
		seed = seed*1664525 + 1013904223
		return int(seed>>16) % n
	}
	reqs := validReqs()
	for _, odds := range [][4]int{{1, 3, 1, 2}, {1, 6, 2, 5}, {1, 1, 1, 1}, {4, 8, 1, 8}, {1, 20, 1, 20}} {
		o := &orderRun{t: t}
		for range 6000 {
			at := random(odds[0] + odds[1] + odds[2] + odds[3])
			switch {
			case at < odds[0]:
				o.post(reqs[random(len(reqs))])
			case at < odds[0]+odds[1]:
				o.issue()
			case at < odds[0]+odds[1]+odds[2]:
				o.back()
			default:
				o.end()
			}
			o.check()
		}
		if o.completed < 400 {
			t.Errorf("only %d beats are completed", o.completed)
		}
	}
}

// completeBeats grants and completes the beats of a master, one after the
// other, until it has so few requests, and returns their addresses.
func completeBeats(t *testing.T, m impl.Mst, requests int) (impl.Mst, []int) {
	t.Helper()
	var addrs []int
	// No four requests have more beats.
	for steps := 0; len(m.Queue) > requests && steps < 32; steps++ {
		addrs = append(addrs, impl.MstAddr(m, m.Done))
		granted, _ := impl.MstIssue(m)
		next, ok := impl.MstEnd(granted)
		if !ok {
			t.Fatalf("MstEnd(%v) is false", granted)
		}
		m = next
	}
	return m, addrs
}

// Requests are completed in the order in which they are posted, and nothing is
// lost when the master has no more of them for a while.
func TestRequestsAreCompletedInOrder(t *testing.T) {
	var m impl.Mst
	var want, got, addrs []int
	for i, r := range validReqs() {
		next, ok := impl.MstPost(m, r)
		if !ok {
			t.Fatalf("MstPost(%v, %v) is false", m, r)
		}
		m, addrs = completeBeats(t, next, i%4)
		want, got = append(want, wantAddrs(r.Addr, r.Size, r.Burst)...), append(got, addrs...)
	}
	m, addrs = completeBeats(t, m, 0)
	got = append(got, addrs...)
	if !slices.Equal(got, want) || !sameMstFields(m, impl.Mst{}) {
		t.Errorf("the beats are at %v, want %v", got, want)
	}
}

// A completed beat is no reason to forget that the request is broken, but the
// next request is not.
func TestBrokenRequestsStayBroken(t *testing.T) {
	m := impl.Mst{Queue: queueOf(3, 1), Broken: true}
	for done := range 8 {
		if !m.Broken || m.Tries != 0 || m.Parted || m.Done != done {
			t.Fatalf("after %d beats the master is %v", done, m)
		}
		m, _ = impl.MstIssue(m)
		m.Tries, m.Parted = 2, true
		m, _ = impl.MstEnd(m)
	}
	if !sameMstFields(m, impl.Mst{Queue: queueOf(3, 1)[1:]}) {
		t.Errorf("the next request begins with %v", m)
	}
}

func TestSameMstComparesEachField(t *testing.T) {
	changes := []func(m *impl.Mst){
		func(m *impl.Mst) { m.Beat++ }, func(m *impl.Mst) { m.Beat = math.MinInt }, func(m *impl.Mst) { m.Done-- }, func(m *impl.Mst) { m.Tries++ },
		func(m *impl.Mst) { m.Beat += 1 << 32 }, func(m *impl.Mst) { m.Done += 1 << 32 }, func(m *impl.Mst) { m.Tries += 1 << 32 },
		func(m *impl.Mst) { m.Parted = !m.Parted }, func(m *impl.Mst) { m.Broken = !m.Broken },
		func(m *impl.Mst) { m.Queue = nil }, func(m *impl.Mst) { m.Queue = m.Queue[:2] }, func(m *impl.Mst) { m.Queue = m.Queue[1:] }, func(m *impl.Mst) { m.Queue = append(m.Queue, impl.Req{}) },
		func(m *impl.Mst) { m.Queue[0], m.Queue[2] = m.Queue[2], m.Queue[0] },
	}
	for i := range 3 {
		changes = append(changes,
			func(m *impl.Mst) { m.Queue[i].Write = !m.Queue[i].Write }, func(m *impl.Mst) { m.Queue[i].Addr++ }, func(m *impl.Mst) { m.Queue[i].Size++ },
			func(m *impl.Mst) { m.Queue[i].Burst++ }, func(m *impl.Mst) { m.Queue[i].Lock = !m.Queue[i].Lock }, func(m *impl.Mst) { m.Queue[i].Data = append(m.Queue[i].Data, 0) },
		)
	}
	for _, at := range []int{0, 2} {
		changes = append(changes, func(m *impl.Mst) { m.Queue[at].Data[3]++ }, func(m *impl.Mst) { m.Queue[at].Data = m.Queue[at].Data[:3] })
	}
	for _, m := range []impl.Mst{{Queue: queueOf(3, 1, 2)}, {Queue: queueOf(1, 2, 3), Beat: 2, Done: 1, Tries: 3, Parted: true, Broken: true}, {Queue: queueOf(2, 0, 1), Beat: -4, Done: 9, Tries: -1}} {
		if !impl.SameMst(m, cloneMst(m)) {
			t.Errorf("SameMst(%v) of a copy is false", m)
		}
		for i, change := range changes {
			other := cloneMst(m)
			change(&other)
			if impl.SameMst(m, other) || impl.SameMst(other, m) {
				t.Errorf("change %d: SameMst(%v, %v) is true", i, m, other)
			}
		}
	}
}

func TestSameMstOfAnyMasters(t *testing.T) {
	l := inconsistentMsts()
	forEachMst(func(m impl.Mst) {
		if len(l)%3 == 0 || len(m.Queue) == 0 {
			l = append(l, m)
		}
	})
	for i, m := range l {
		if !impl.SameMst(m, roomyMst(m)) || !impl.SameMst(roomyMst(m), m) {
			t.Errorf("SameMst(%v) of a copy is false", m)
		}
		for _, other := range l[i:min(i+90, len(l))] {
			if got := impl.SameMst(m, other); got != sameMstFields(m, other) {
				t.Errorf("SameMst(%v, %v) = %v", m, other, got)
			}
		}
	}
}

// A posted request is a copy: it shares nothing with the argument or with the
// same request in the queue.
func TestPostedRequestsAreNewMemory(t *testing.T) {
	list := []int{1, 2, 3, 4, 5, 6}
	r := impl.Req{Write: true, Burst: impl.BuFour, Data: list[1:5]}
	m := impl.Mst{Queue: []impl.Req{r, r, r}, Beat: 1}
	got, ok := impl.MstPost(m, r)
	if !ok || !sameMstFields(got, impl.Mst{Queue: []impl.Req{r, r, r, r}, Beat: 1}) {
		t.Errorf("MstPost(%v, %v) = %v, %v", m, r, got, ok)
	}
	checkSeparate(t, got)
	if !slices.Equal(list, []int{1, 2, 3, 4, 5, 6}) {
		t.Errorf("a posted request shares the list %v", list)
	}
}

// Requests whose data are one list in the argument have separate lists in the
// result, whether or not the master has changed.
func TestResultsHaveSeparateLists(t *testing.T) {
	list := []int{1, 2, 3, 4, 5, 6}
	r := impl.Req{Write: true, Burst: impl.BuFour, Data: list[1:5]}
	for _, step := range mstSteps() {
		for beat := range 3 {
			got, _ := step.do(impl.Mst{Queue: []impl.Req{r, r, r}, Beat: beat})
			checkSeparate(t, got)
			got, _ = step.do(impl.Mst{Queue: []impl.Req{r, r, r}, Beat: beat, Tries: -1})
			checkSeparate(t, got)
		}
	}
	if !slices.Equal(list, []int{1, 2, 3, 4, 5, 6}) {
		t.Errorf("a result shares the list %v", list)
	}
}

// The functions that only tell something keep their arguments, too.
func TestMstFunctionsKeepTheirArguments(t *testing.T) {
	c := retryConf(3)
	forEachMst(func(m impl.Mst) {
		m, other := roomyMst(m), roomyMst(m)
		kept := cloneMst(wholeMst(m))
		for i, call := range []func(){
			func() { impl.MstOk(m, c) }, func() { impl.MstWants(m) }, func() { impl.MstAddr(m, m.Beat) }, func() { impl.MstAddr(m, -1) },
			func() { impl.SameMst(m, other) }, func() { impl.SameMst(other, m) }, func() { impl.SameMst(m, m) },
		} {
			call()
			if !sameMstFields(wholeMst(m), kept) || !sameMstFields(wholeMst(other), kept) || !sameConfFields(c, retryConf(3)) {
				t.Errorf("call %d changes %v to %v or %v", i, kept, wholeMst(m), wholeMst(other))
			}
		}
	})
}
