package tests

import (
	"math"
	"slices"
	"strconv"
	"strings"
	"testing"

	"loop.example/g01623/impl"
)

// dice rolls the same numbers every time the tests run.
type dice struct{ seed uint32 }

// roll returns a number from 0 to n-1, where n is at most 1<<31.
func (d *dice) roll(n int) int {
	d.seed = d.seed*1664525 + 1013904223
	return int(d.seed) * n >> 32
}

func rolledConf(d *dice) impl.Conf {
	kinds := allKinds()
	for {
		c := impl.Conf{Quantum: 1 + d.roll(4), MaxWait: d.roll(4), MaxRetry: d.roll(4), MaxSplit: 1 + d.roll(12), LockMost: 1 + d.roll(1+d.roll(40))}
		chosen := kinds[d.roll(len(kinds))]
		c.Masters = mastersOf(chosen, 2*wantSlot(c)*strings.Count(chosen, "p")+d.roll(30))
		if wantConfOk(c) {
			return c
		}
	}
}

// rolledReq returns a valid request for any slave, most often for the device.
func rolledReq(d *dice) impl.Req {
	for {
		r := impl.Req{Write: d.roll(2) == 0, Addr: d.roll(240), Size: d.roll(3), Burst: d.roll(4), Lock: d.roll(3) == 0}
		if d.roll(3) == 0 {
			r.Addr, r.Size = 192+4*d.roll(8), 2
		}
		r.Addr &= -1 << r.Size
		if r.Write {
			for range []int{1, 4, 4, 8}[r.Burst] {
				r.Data = append(r.Data, d.roll(1<<(8<<r.Size-1))*2+d.roll(2))
			}
		}
		if impl.ReqOk(r) {
			return r
		}
	}
}

func rolledList(d *dice, n int) []int {
	var l []int
	for range d.roll(7) {
		l = append(l, d.roll(n)-1)
	}
	return l
}

// rolledScript returns a valid script with the most posts, which may come
// faster than the masters can take them.
func rolledScript(d *dice, c impl.Conf) impl.Script {
	s := impl.Script{Waits: rolledList(d, 7), Says: rolledList(d, 6)}
	at, pause := 0, 1+d.roll(25)
	for range 20 {
		at += max(0, d.roll(2*pause)-pause)
		s.Posts = append(s.Posts, impl.Post{At: at, Who: d.roll(len(c.Masters)), Req: rolledReq(d)})
	}
	return s
}

// forEachRun calls f with new buses and scripts of every kind, and the numbers
// of cycles in which most of their requests are completed.
func forEachRun(runs int, f func(b impl.Bus, s impl.Script, cycles int)) {
	d := &dice{seed: 3}
	for i := range runs {
		c := rolledConf(d)
		if i < 4 {
			c = busConfs()[i]
		}
		s := rolledScript(d, c)
		b, _ := impl.BusNew(c)
		f(b, s, s.Posts[19].At+150+d.roll(150))
	}
}

// wantSplit limits the choice with the limits written out.
func wantSplit(c impl.Conf, s impl.Script, k int) int {
	n := 1
	for n < c.MaxSplit && n < 100 && n <= wantChoice(s.Waits, k) {
		n++
	}
	return n
}

func wantBeatAddr(b impl.Bus, p impl.Beat) int {
	return wantBeats(b.M[p.Who])[p.Beat]
}

// wantSeen returns the signals of the beats on the bus.
func wantSeen(b impl.Bus) impl.Wave {
	w := impl.Wave{Cycle: b.Now, Addr: -1, Who: -1, Data: -1, From: -1, Ready: true, Got: -1}
	if b.Addr.Live {
		w.Addr, w.Who, w.Kind = wantBeatAddr(b, b.Addr), b.Addr.Who, 3
	}
	if b.Addr.First {
		w.Kind = 2
	}
	if b.Data.Live {
		w.Data, w.From = wantBeatAddr(b, b.Data), b.Data.Who
	}
	return w
}

// passTime changes what does not depend on the beats on the bus.
func passTime(b *impl.Bus, s impl.Script) {
	for _, p := range s.Posts {
		if p.At == b.Now && p.Who >= 0 && p.Who < len(b.M) && impl.ReqOk(p.Req) && len(b.M[p.Who].Queue) < 4 {
			b.M[p.Who].Queue = append(b.M[p.Who].Queue, p.Req)
		}
	}
	for who, m := range b.Conf.Masters {
		if b.Splits[who] > 0 {
			b.Splits[who]--
		}
		if m.Prio {
			b.Buckets[who] = wantTicks(b.Buckets[who], m, 1)
		}
	}
	if b.Holder >= 0 && b.Held < b.Conf.LockMost {
		b.Held++
	}
}

func takeBack(b *impl.Bus, p impl.Beat) {
	b.M[p.Who].Beat--
	if p.By == impl.ByToken && b.Buckets[p.Who].Tokens < b.Conf.Masters[p.Who].Cap {
		b.Buckets[p.Who].Tokens++
	}
	if p.By == impl.ByTurn && b.Arb.At == p.Who && b.Arb.Credit < wantTurns(b.Conf)[p.Who] {
		b.Arb.Credit++
	}
}

// wantExecute returns what the model does with a beat.
func wantExecute(b impl.Bus, p impl.Beat) (impl.Model, int, int) {
	r, v := b.M[p.Who].Queue[0], 0
	if r.Write {
		v = r.Data[p.Beat]
	}
	return wantModelDo(b.Model, r.Write, wantBeatAddr(b, p), r.Size, v)
}

func finishBeat(b *impl.Bus, s impl.Script, p impl.Beat) {
	m := &b.M[p.Who]
	switch p.Resp {
	case 2:
		m.Tries++
		takeBack(b, p)
	case 3:
		m.Parted, b.Splits[p.Who] = true, wantSplit(b.Conf, s, b.Picks)
		takeBack(b, p)
	default:
		d := impl.Done{Cycle: b.Now, Who: p.Who, Write: m.Queue[0].Write, Addr: wantBeatAddr(*b, p), Size: m.Queue[0].Size, Resp: p.Resp}
		if p.Resp == 0 {
			b.Model, d.Value, _ = wantExecute(*b, p)
		}
		b.Log = append(b.Log, d)
		if b.Holder == p.Who && p.Beat == len(wantBeats(*m))-1 {
			b.Holder, b.Held = -1, 0
		}
		*m, _ = wantEnd(*m)
	}
}

// wantAnswer returns the response to the next beat and its wait states.
func wantAnswer(b impl.Bus, s impl.Script, p impl.Beat) (int, int) {
	m, addr, said := b.M[p.Who], wantBeatAddr(b, p), wantChoice(s.Says, b.Picks)
	left := min(max(wantChoice(s.Waits, b.Picks), 0), b.Conf.MaxWait)
	_, _, resp := wantExecute(b, p)
	switch {
	case m.Broken || addr > 223:
		return 1, 0
	case addr > 191:
		return resp, left + 2
	case said == 2 && m.Tries != b.Conf.MaxRetry:
		return 2, left
	case said == 3 && addr > 127 && !m.Parted && b.Holder != p.Who:
		return 3, left
	}
	return resp, left
}

// wantGrant returns the master that is granted a beat, or -1.
func wantGrant(b *impl.Bus) int {
	wants, tokens := make([]bool, len(b.M)), make([]bool, len(b.M))
	for who, m := range b.M {
		wants[who] = wantWants(m) && b.Splits[who] == 0 && (b.Holder == -1 || b.Holder == who)
		tokens[who] = wants[who] && b.Buckets[who].Tokens > 0
	}
	who, by := slices.Index(tokens, true), impl.ByToken
	switch {
	case b.Holder >= 0:
		who, by = slices.Index(wants, true), impl.ByLock
	case who >= 0:
		b.Buckets[who].Tokens--
	default:
		b.Arb, who = wantPick(b.Arb, b.Conf, wants)
		by = impl.ByTurn
	}
	if who < 0 {
		return who
	}
	m := &b.M[who]
	b.Addr = impl.Beat{Live: true, Who: who, Beat: m.Beat, First: m.Beat == 0 || b.Last != who, By: by}
	if m.Queue[0].Lock && !m.Broken && b.Holder == -1 {
		b.Holder = who
	}
	m.Beat++
	b.Last = who
	return who
}

// wantStep executes one cycle of a valid bus without the program.
func wantStep(b impl.Bus, s impl.Script) (impl.Bus, impl.Wave) {
	b = cloneBus(b)
	w := wantSeen(b)
	passTime(&b, s)
	p := b.Data
	switch {
	case p.Left > 0:
		w.Ready = false
		b.Data.Left--
	case p.Resp > 0 && !p.Second:
		w.Ready, w.Resp, b.Data.Second = false, p.Resp, true
		if b.Addr.Live {
			takeBack(&b, b.Addr)
			b.Addr = impl.Beat{}
		}
	case p.Live:
		w.Resp, b.Data = p.Resp, impl.Beat{}
		finishBeat(&b, s, p)
	}
	if w.Ready {
		if b.Holder >= 0 && b.Held == b.Conf.LockMost {
			b.M[b.Holder].Broken, b.Holder, b.Held = true, -1, 0
		}
		if next := b.Addr; next.Live {
			next.Resp, next.Left = wantAnswer(b, s, next)
			b.Addr, b.Data = impl.Beat{}, next
			b.Picks++
		}
		w.Got = wantGrant(&b)
	}
	b.Now++
	return b, w
}

// waveText returns the signals in words: the cycle; kind, master and address
// of the next beat; master and address of the present one; whether it is ready
// and its response; and the master that is granted. A - stands for none.
func waveText(w impl.Wave) string {
	number := func(n int) string {
		if n == -1 {
			return "-"
		}
		return strconv.Itoa(n)
	}
	ready := "wait"
	if w.Ready {
		ready = "ready"
	}
	kind := map[int]string{0: "idle", 2: "first", 3: "next"}[w.Kind]
	resp := map[int]string{0: "okay", 1: "error", 2: "retry", 3: "split"}[w.Resp]
	return strings.Join([]string{strconv.Itoa(w.Cycle), kind, number(w.Who) + ":" + number(w.Addr), number(w.From) + ":" + number(w.Data), ready, resp, number(w.Got)}, " ")
}

func conf(t *testing.T, s string) impl.Conf {
	t.Helper()
	c, ok := wantConf(s)
	if !ok {
		t.Fatalf("%q is no configuration", s)
	}
	return c
}

func script(t *testing.T, s string) impl.Script {
	t.Helper()
	x, ok := wantScript(s)
	if !ok {
		t.Fatalf("%q is no script", s)
	}
	return x
}

// checkStep compares one cycle with wantStep, and returns what BusStep does.
func checkStep(t *testing.T, b impl.Bus, s impl.Script) (impl.Bus, impl.Wave) {
	t.Helper()
	want, wantWave := wantStep(b, s)
	got, w := impl.BusStep(b, s)
	if !sameBusFields(got, want) || w != wantWave {
		t.Fatalf("BusStep(%v, %v) = %v, %q, want %v, %q", b, s, got, waveText(w), want, waveText(wantWave))
	}
	return got, w
}

// checkWaves executes a script on a new bus, and compares the signals with
// those that were found by hand, a line for each cycle.
func checkWaves(t *testing.T, c impl.Conf, s impl.Script, want string) impl.Bus {
	t.Helper()
	lines := strings.Split(strings.TrimSpace(want), "\n")
	b, _ := impl.BusNew(c)
	end, waves := impl.BusRun(b, s, len(lines))
	if len(waves) != len(lines) {
		t.Fatalf("there are %d waves in %d cycles", len(waves), len(lines))
	}
	for i, line := range lines {
		line = strings.TrimSpace(line)
		next, w := checkStep(t, b, s)
		if waveText(w) != line || waveText(waves[i]) != line {
			t.Errorf("BusStep sees %q, BusRun sees %q, want %q", waveText(w), waveText(waves[i]), line)
		}
		b = next
	}
	if played, ok := impl.Play(c, s, len(lines)); !ok || !sameBusFields(b, end) || !sameBusFields(b, played) {
		t.Errorf("BusStep, BusRun and Play lead to %v, %v and %v", b, end, played)
	}
	return b
}

// checkIdle checks that all requests are completed, and how.
func checkIdle(t *testing.T, b impl.Bus, log ...impl.Done) {
	t.Helper()
	if !impl.IdleBus(b) || b.Addr.Live || b.Data.Live || b.Holder != -1 || !slices.Equal(b.Log, log) {
		t.Errorf("the bus is %v, want the log %v", b, log)
	}
}

func TestSplitAtExamples(t *testing.T) {
	for _, x := range []struct {
		most  int
		waits []int
		want  []int
	}{
		{12, nil, []int{1, 1, 1, 1}},
		{12, []int{0, 1, 11, 12}, []int{1, 2, 12, 12}},
		{3, []int{1, 2, 3}, []int{2, 3, 3, 2, 3, 3}},
		{1, []int{0, 1, 99}, []int{1, 1, 1}},
		{12, []int{-1, -9, math.MinInt, math.MaxInt, 98, 99}, []int{1, 1, 1, 12, 12, 12}},
		{500, []int{97, 98, 99, 100, 500, math.MaxInt}, []int{98, 99, 100, 100, 100, 100}},
		{math.MaxInt, []int{98, 99, math.MaxInt, math.MinInt}, []int{99, 100, 100, 1}},
	} {
		for k, want := range x.want {
			if got := impl.SplitAt(impl.Conf{MaxSplit: x.most}, impl.Script{Waits: x.waits, Says: []int{7}}, k); got != want {
				t.Errorf("SplitAt with MaxSplit %d and %v at %d = %d, want %d", x.most, x.waits, k, got, want)
			}
		}
		for _, k := range []int{-1, -2, math.MinInt} {
			if got := impl.SplitAt(impl.Conf{MaxSplit: x.most}, impl.Script{Waits: []int{5}}, k); got != 1 {
				t.Errorf("SplitAt with MaxSplit %d at %d = %d", x.most, k, got)
			}
		}
	}
}

// MaxWait limits the wait states, but not the splits.
func TestSplitAtOfEveryChoice(t *testing.T) {
	for _, waits := range oddLists() {
		for _, most := range []int{1, 2, 3, 11, 12, 98, 99, 100, 101, 1 << 32, math.MaxInt} {
			for _, wait := range []int{0, 3, -1, math.MinInt, math.MaxInt} {
				c, s := impl.Conf{MaxSplit: most, MaxWait: wait}, impl.Script{Waits: waits}
				for k := range 70 {
					if got := impl.SplitAt(c, s, k); got != wantSplit(c, s, k) {
						t.Errorf("SplitAt(%v, %v, %d) = %d, want %d", c, s, k, got, wantSplit(c, s, k))
					}
				}
			}
		}
		for _, k := range choiceNumbers() {
			c, s := impl.Conf{MaxSplit: 12}, impl.Script{Waits: waits}
			if got := impl.SplitAt(c, s, k); got != wantSplit(c, s, k) {
				t.Errorf("SplitAt(%v, %v, %d) = %d, want %d", c, s, k, got, wantSplit(c, s, k))
			}
		}
	}
}

// A master alone: its beats overlap, and a request begins in the cycle in
// which the one before it is completed.
func TestRunOfOneMaster(t *testing.T) {
	s := script(t, "waits 0 1 9\npost 0 0 write half four 2 500 600 700 800\npost 0 0 read byte wrap 6\npost 2 0 read word one 200\n")
	b := checkWaves(t, conf(t, "1 2 0 1 5 1"), s, `
		0 idle -:- -:- ready okay 0
		1 first 0:2 -:- ready okay 0
		2 next 0:4 0:2 ready okay 0
		3 next 0:6 0:4 wait okay -
		4 next 0:6 0:4 ready okay 0
		5 next 0:8 0:6 wait okay -
		6 next 0:8 0:6 wait okay -
		7 next 0:8 0:6 ready okay -
		8 idle -:- 0:8 ready okay 0
		9 first 0:6 -:- ready okay 0
		10 next 0:7 0:6 wait okay -
		11 next 0:7 0:6 ready okay 0
		12 next 0:4 0:7 wait okay -
		13 next 0:4 0:7 wait okay -
		14 next 0:4 0:7 ready okay 0
		15 next 0:5 0:4 ready okay -
		16 idle -:- 0:5 wait okay -
		17 idle -:- 0:5 ready okay 0
		18 first 0:200 -:- ready okay -
		19 idle -:- 0:200 wait okay -
		20 idle -:- 0:200 wait okay -
		21 idle -:- 0:200 wait okay -
		22 idle -:- 0:200 wait okay -
		23 idle -:- 0:200 ready okay -`)
	checkIdle(t, b,
		impl.Done{Cycle: 2, Write: true, Addr: 2, Size: 1, Value: 500}, impl.Done{Cycle: 4, Write: true, Addr: 4, Size: 1, Value: 600},
		impl.Done{Cycle: 7, Write: true, Addr: 6, Size: 1, Value: 700}, impl.Done{Cycle: 8, Write: true, Addr: 8, Size: 1, Value: 800},
		impl.Done{Cycle: 11, Addr: 6, Value: 700 - 512}, impl.Done{Cycle: 14, Addr: 7, Value: 2}, impl.Done{Cycle: 15, Addr: 4, Value: 600 - 512}, impl.Done{Cycle: 17, Addr: 5, Value: 2},
		impl.Done{Cycle: 23, Addr: 200, Size: 2},
	)
	if b.Picks != 9 || b.Last != 0 {
		t.Error(b.Picks, b.Last)
	}
}

// The edge case of the stage: the first cycle of an error takes back the next
// beat of the same burst, which is granted again in the second one.
func TestRunWithErrorsAndPendingBeats(t *testing.T) {
	b := checkWaves(t, conf(t, "1 0 0 1 5 1"), script(t, "says 2 3\npost 0 0 read word four 216\n"), `
		0 idle -:- -:- ready okay 0
		1 first 0:216 -:- ready okay 0
		2 next 0:220 0:216 wait okay -
		3 next 0:220 0:216 wait okay -
		4 next 0:220 0:216 wait error -
		5 idle -:- 0:216 ready error 0
		6 next 0:220 -:- ready okay 0
		7 next 0:224 0:220 wait okay -
		8 next 0:224 0:220 wait okay -
		9 next 0:224 0:220 wait error -
		10 idle -:- 0:220 ready error 0
		11 next 0:224 -:- ready okay 0
		12 next 0:228 0:224 wait error -
		13 idle -:- 0:224 ready error 0
		14 next 0:228 -:- ready okay -
		15 idle -:- 0:228 wait error -
		16 idle -:- 0:228 ready error -`)
	checkIdle(t, b,
		impl.Done{Cycle: 5, Addr: 216, Size: 2, Resp: 1}, impl.Done{Cycle: 10, Addr: 220, Size: 2, Resp: 1},
		impl.Done{Cycle: 13, Addr: 224, Size: 2, Resp: 1}, impl.Done{Cycle: 16, Addr: 228, Size: 2, Resp: 1},
	)
}

// The same with retries: a master with a token and one without it take back
// each other's beats. The token comes back, and so does the turn.
func TestRunWithRetriesAndPendingBeats(t *testing.T) {
	c, s := conf(t, "1 0 1 2 5 1 1:82:1"), script(t, "says 2\npost 0 0 read word one 4\npost 1 1 read half one 130\n")
	b := checkWaves(t, c, s, `
		0 idle -:- -:- ready okay 0
		1 first 0:4 -:- ready okay 1
		2 first 1:130 0:4 wait retry -
		3 idle -:- 0:4 ready retry 1
		4 first 1:130 -:- ready okay 0
		5 first 0:4 1:130 wait retry -
		6 idle -:- 1:130 ready retry 1
		7 first 1:130 -:- ready okay 0
		8 first 0:4 1:130 ready okay -
		9 idle -:- 0:4 ready okay -`)
	checkIdle(t, b, impl.Done{Cycle: 8, Who: 1, Addr: 130, Size: 1}, impl.Done{Cycle: 9, Addr: 4, Size: 2})
	for _, x := range []struct{ cycles, tokens, credit int }{{1, 1, 0}, {2, 0, 0}, {3, 1, 0}, {4, 0, 1}, {5, 0, 0}, {6, 0, 1}, {7, 0, 1}, {8, 0, 0}, {9, 0, 0}} {
		b, _ := impl.Play(c, s, x.cycles)
		buckets, arbiter := []impl.Bucket{{}, {Tokens: x.tokens, Count: x.cycles}}, impl.Wrr{Credit: x.credit}
		if !slices.Equal(b.Buckets, buckets) || b.Arb != arbiter {
			t.Errorf("after %d cycles, the buckets are %v and the arbiter is %v", x.cycles, b.Buckets, b.Arb)
		}
	}
}

// The same with splits, in a burst that another master's beat comes before.
func TestRunWithSplitsAndPendingBeats(t *testing.T) {
	b := checkWaves(t, conf(t, "2 1 0 3 5 1 1"), script(t, "waits 1 0\nsays 3 0\npost 0 0 write byte four 128 1 2 3 4\npost 0 1 read byte one 0\n"), `
		0 idle -:- -:- ready okay 1
		1 first 1:0 -:- ready okay 0
		2 first 0:128 1:0 wait okay -
		3 first 0:128 1:0 ready okay 0
		4 next 0:129 0:128 ready okay 0
		5 next 0:130 0:129 wait okay -
		6 next 0:130 0:129 wait split -
		7 idle -:- 0:129 ready split -
		8 idle -:- -:- ready okay 0
		9 next 0:129 -:- ready okay 0
		10 next 0:130 0:129 ready okay 0
		11 next 0:131 0:130 wait okay -
		12 next 0:131 0:130 wait split -
		13 idle -:- 0:130 ready split -
		14 idle -:- -:- ready okay 0
		15 next 0:130 -:- ready okay 0
		16 next 0:131 0:130 ready okay -
		17 idle -:- 0:131 wait okay -
		18 idle -:- 0:131 wait split -
		19 idle -:- 0:131 ready split -
		20 idle -:- -:- ready okay 0
		21 next 0:131 -:- ready okay -
		22 idle -:- 0:131 ready okay -`)
	checkIdle(t, b,
		impl.Done{Cycle: 3, Who: 1}, impl.Done{Cycle: 4, Write: true, Addr: 128, Value: 1}, impl.Done{Cycle: 10, Write: true, Addr: 129, Value: 2},
		impl.Done{Cycle: 16, Write: true, Addr: 130, Value: 3}, impl.Done{Cycle: 22, Write: true, Addr: 131, Value: 4},
	)
	if got := b.Model.Mem[127:133]; !slices.Equal(got, []int{0, 1, 2, 3, 4, 0}) {
		t.Error(got)
	}
}

// While master 1 has its lock, master 0 waits, also in a cycle in which no
// beat remains to be granted.
func TestRunWithALock(t *testing.T) {
	b := checkWaves(t, conf(t, "1 0 0 1 9 1 1"), script(t, "post 0 1 write byte four 0 lock 5 6 7 8\npost 0 0 read byte four 64\n"), `
		0 idle -:- -:- ready okay 1
		1 first 1:0 -:- ready okay 1
		2 next 1:1 1:0 ready okay 1
		3 next 1:2 1:1 ready okay 1
		4 next 1:3 1:2 ready okay -
		5 idle -:- 1:3 ready okay 0
		6 first 0:64 -:- ready okay 0
		7 next 0:65 0:64 ready okay 0
		8 next 0:66 0:65 ready okay 0
		9 next 0:67 0:66 ready okay -
		10 idle -:- 0:67 ready okay -`)
	checkIdle(t, b,
		impl.Done{Cycle: 2, Who: 1, Write: true, Addr: 0, Value: 5}, impl.Done{Cycle: 3, Who: 1, Write: true, Addr: 1, Value: 6},
		impl.Done{Cycle: 4, Who: 1, Write: true, Addr: 2, Value: 7}, impl.Done{Cycle: 5, Who: 1, Write: true, Addr: 3, Value: 8},
		impl.Done{Cycle: 7, Addr: 64}, impl.Done{Cycle: 8, Addr: 65}, impl.Done{Cycle: 9, Addr: 66}, impl.Done{Cycle: 10, Addr: 67},
	)
}

// The run of chapter 13, whose buses were found by hand: a lock is broken.
func TestRunByHand(t *testing.T) {
	l := handRun()
	s := script(t, "waits 0 1 0\nsays 0 0 2\npost 0 0 write byte four 128 lock 11 12 13 14\npost 0 1 read word one 4\n")
	checkWaves(t, l[0].Conf, s, `
		0 idle -:- -:- ready okay 1
		1 first 1:4 -:- ready okay 0
		2 first 0:128 1:4 ready okay 0
		3 next 0:129 0:128 wait okay -
		4 next 0:129 0:128 ready okay 0
		5 next 0:130 0:129 wait retry -
		6 idle -:- 0:129 ready retry 0
		7 next 0:129 -:- ready okay 0
		8 next 0:130 0:129 wait error -
		9 idle -:- 0:129 ready error 0`)
	for i, want := range l[1:] {
		if got, _ := impl.BusStep(l[i], s); !sameBusFields(got, want) {
			t.Errorf("after %d cycles, the bus is %v, want %v", i+1, got, want)
		}
		if got, ok := impl.Play(l[0].Conf, s, i+1); !ok || !sameBusFields(got, want) {
			t.Errorf("Play of %d cycles = %v, %v, want %v", i+1, got, ok, want)
		}
	}
}

// Two masters take turns: each beat whose master was not granted before it is
// a first one, also in the middle of its burst.
func TestRunWithTurns(t *testing.T) {
	b := checkWaves(t, conf(t, "1 0 0 1 9 2 1"), script(t, "post 0 0 read byte four 0\npost 0 1 read byte four 64\n"), `
		0 idle -:- -:- ready okay 1
		1 first 1:64 -:- ready okay 0
		2 first 0:0 1:64 ready okay 0
		3 next 0:1 0:0 ready okay 1
		4 first 1:65 0:1 ready okay 0
		5 first 0:2 1:65 ready okay 0
		6 next 0:3 0:2 ready okay 1
		7 first 1:66 0:3 ready okay 1
		8 next 1:67 1:66 ready okay -
		9 idle -:- 1:67 ready okay -`)
	if !impl.IdleBus(b) || len(b.Log) != 8 {
		t.Error(b)
	}
}

// pendingStart is a bus whose data phase ends with a two-cycle response, while
// another beat is pending.
type pendingStart struct {
	bus        impl.Bus
	data, addr int
}

// forEachPending calls f for every pair of masters, response, kind of grant
// and number of completed beats, with buckets and turns that are empty, full
// or in between.
func forEachPending(f func(p pendingStart)) {
	for i, c := range busConfs() {
		for n := range 3 * 3 * 3 * 3 * 3 {
			done, resp, by, level := n%3, 1+n/3%3, 1+n/9%3, n/27%3
			for data := range c.Masters {
				for addr := range c.Masters {
					b := granted(wantingBus(c, done, 0), data, addr)
					b.Data.Resp, b.Data.By, b.Addr.By, b.Addr.First = resp, 1+n/81%3, by, n%2 == 0
					for who, m := range c.Masters {
						b.Buckets[who].Tokens = m.Cap * level / 2
					}
					b.Arb = impl.Wrr{At: (addr + n%2) % len(b.M), Credit: 0}
					b.Arb.Credit = wantTurns(c)[b.Arb.At] * level / 2
					if resp == 2 && c.MaxRetry == 0 || i == 3 && n%7 != 0 {
						continue
					}
					f(pendingStart{b, data, addr})
				}
			}
		}
	}
}

// The edge case of the stage: in the first cycle of the response, the pending
// beat is seen for the last time, and only its own grant is taken back.
func TestFirstCycleOfAResponseWithAPendingBeat(t *testing.T) {
	starts := 0
	forEachPending(func(p pendingStart) {
		starts++
		b := p.bus
		checkBus(t, b, true)
		want := cloneBus(b)
		passTime(&want, impl.Script{})
		want.Now++
		want.Data.Second, want.Addr = true, impl.Beat{}
		want.M[p.addr].Beat--
		c := b.Conf.Masters[p.addr]
		if b.Addr.By == impl.ByToken && c.Prio && want.Buckets[p.addr].Tokens != c.Cap {
			want.Buckets[p.addr].Tokens++
		}
		if b.Addr.By == impl.ByTurn && b.Arb.At == p.addr && b.Arb.Credit != c.Weight*b.Conf.Quantum {
			want.Arb.Credit++
		}
		wave := wantSeen(b)
		wave.Ready, wave.Resp = false, b.Data.Resp
		got, w := impl.BusStep(b, impl.Script{Waits: []int{5}, Says: []int{3, 2}})
		if !sameBusFields(got, want) || w != wave || w.Addr == -1 || w.Who != p.addr {
			t.Fatalf("the first cycle of %v leads to %v, %q, want %v, %q", b, got, waveText(w), want, waveText(wave))
		}
		checkBus(t, got, true)
	})
	if starts < 1000 {
		t.Errorf("only %d buses", starts)
	}
}

// In the second cycle nothing is in the address phase, the response is the
// same, and any master that may be is granted.
func TestSecondCycleOfAResponseWithAPendingBeat(t *testing.T) {
	forEachPending(func(p pendingStart) {
		s := impl.Script{Waits: []int{3, 0, 1}}
		first, seen := checkStep(t, p.bus, s)
		got, w := checkStep(t, first, s)
		want := impl.Wave{Cycle: seen.Cycle + 1, Addr: -1, Who: -1, Data: seen.Data, From: p.data, Ready: true, Resp: seen.Resp, Got: w.Got}
		if w != want || w.Got == -1 && len(p.bus.M) > 1 || got.Data.Live {
			t.Fatalf("the second cycle of %v is %q and leads to %v", p.bus, waveText(w), got)
		}
		before, after := p.bus.M[p.data], got.M[p.data]
		if w.Got == p.data {
			after.Beat--
		}
		switch seen.Resp {
		case impl.ReError:
			last := impl.Done{Cycle: w.Cycle, Who: p.data, Addr: w.Data, Size: p.data % 3, Resp: 1}
			if len(got.Log) != 4 || got.Log[3] != last || after.Done != before.Done+1 || after.Beat != after.Done {
				t.Fatalf("after an error the bus is %v", got)
			}
		case impl.ReRetry:
			if len(got.Log) != 3 || after.Done != before.Done || after.Beat != after.Done || after.Tries != before.Tries+1 || after.Parted || got.Splits[p.data] != 0 {
				t.Fatalf("after a retry the bus is %v", got)
			}
		case impl.ReSplit:
			if len(got.Log) != 3 || after.Done != before.Done || after.Beat != after.Done || !after.Parted || w.Got == p.data || got.Splits[p.data] != min(4, p.bus.Conf.MaxSplit) {
				t.Fatalf("after a split the bus is %v", got)
			}
		}
		checkBus(t, got, true)
	})
}

// The lock that began with a revoked beat goes on: its master is granted that
// beat again, in the second cycle of the response, and nobody else is.
func TestResponseWithAPendingBeatOfALock(t *testing.T) {
	forEachLockBegun(func(c impl.Conf, who, before int, b impl.Bus) {
		for resp := 1; resp <= 3 && who != before; resp++ {
			b.Data.Resp = resp
			if !wantBusOk(b) {
				continue // without retries
			}
			first, w := checkStep(t, b, impl.Script{})
			if w.Ready || w.Who != who || first.Holder != who || first.Held != 1 || first.Addr.Live || first.M[who].Beat != 0 {
				t.Errorf("the first cycle of %v leads to %v", b, first)
			}
			second, w := checkStep(t, first, impl.Script{})
			broken := c.LockMost <= 2
			if !broken && (w.Got != who || second.Holder != who || second.Held != 2 || second.Addr.By != impl.ByLock || !second.Addr.First) {
				t.Errorf("the second cycle of %v leads to %v, with %d granted", first, second, w.Got)
			}
			if second.M[who].Broken != broken {
				t.Errorf("the lock of %v is broken or not in %v", first, second)
			}
		}
	})
}

// Without an error, a retry or a split, the pending beat stays in its address
// phase until it moves on.
func TestPendingBeatOfOtherCycles(t *testing.T) {
	for _, c := range busConfs() {
		for data := range c.Masters {
			for addr := range c.Masters {
				b := granted(wantingBus(c, 1, 0), data, addr)
				pending := b.Addr
				for resp := range 4 {
					b.Data.Resp, b.Data.Left = resp, 1
					if !wantBusOk(b) {
						continue
					}
					next, w := checkStep(t, b, impl.Script{})
					if next.Addr != pending || next.M[addr].Beat != b.M[addr].Beat || w.Ready || w.Resp != 0 || next.Data.Left != 0 || next.Data.Second {
						t.Errorf("a wait state of %v leads to %v, %q", b, next, waveText(w))
					}
				}
				b.Data.Resp, b.Data.Left = 0, 0
				next, w := checkStep(t, b, impl.Script{})
				if !w.Ready || w.Resp != 0 || next.Data != pending || len(next.Log) != 4 {
					t.Errorf("the end of a beat of %v leads to %v, %q", b, next, waveText(w))
				}
			}
		}
	}
}

// stepScripts returns scripts that differ in everything that a cycle of this
// bus looks at. Not all are valid.
func stepScripts(b impl.Bus) []impl.Script {
	var posts []impl.Post
	for i, r := range append(queueOf(0, 1, 3), invalidReqs()...) {
		posts = append(posts, impl.Post{At: b.Now, Who: i%6 - 1, Req: r}, impl.Post{At: b.Now + 1 - i%3, Who: i % 2, Req: queueOf(2)[0]})
	}
	posts = append(posts, impl.Post{At: b.Now, Who: math.MinInt}, impl.Post{At: b.Now, Who: math.MaxInt}, impl.Post{At: b.Now, Who: 1 << 32}, impl.Post{At: b.Now, Who: len(b.M)}, impl.Post{At: b.Now, Who: len(b.M) - 1})
	var l []impl.Script
	for i := range 5 {
		// The choice of this cycle and the ones beside it are all different.
		s := impl.Script{Says: []int{i, i, i, i, i}, Waits: []int{1, 2, 3, 4, 5}}
		s.Says[(b.Picks+1)%5], s.Waits[b.Picks%5] = (i+1)%4, i-1
		if i > 1 {
			s.Posts = posts[7*i:]
		}
		l = append(l, s)
	}
	return append(l, impl.Script{}, impl.Script{Says: []int{3}, Waits: []int{math.MaxInt}}, impl.Script{Says: []int{2}, Waits: []int{math.MinInt}})
}

// Promise 7: a valid bus stays valid, whatever its state and whatever the
// script contains.
func TestStepOfEveryKindOfBus(t *testing.T) {
	for i, b := range someBuses() {
		if b.Now == 4000 {
			continue
		}
		if i%2 == 0 {
			b.Arb.Credit = i / 2 % (wantTurns(b.Conf)[b.Arb.At] + 1)
		}
		if i%3 == 0 {
			b.Last = i / 3 % len(b.M)
		}
		for _, s := range stepScripts(b) {
			next := b
			for range 3 {
				next, _ = checkStep(t, next, s)
				checkBus(t, next, true)
			}
		}
	}
}

// checkAnswers executes the address phase of this request's first beat and the
// first cycle of its data phase, with every state of its master and every
// Holder.
func checkAnswers(t *testing.T, c impl.Conf, who int, r impl.Req) {
	t.Helper()
	for bits := range 16 {
		b := busOf(c)
		b.Model = modelOf(4 * (bits & 1))
		for other := range b.M {
			b.M[other].Queue = []impl.Req{{Addr: 8, Lock: true}}
		}
		b.M[who] = impl.Mst{Queue: []impl.Req{r}, Broken: bits&2 == 2, Parted: bits&4 == 4, Tries: bits >> 3 * c.MaxRetry}
		b = granted(b, -1, who)
		for b.Holder = -1; b.Holder < len(b.M); b.Holder++ {
			if !wantBusOk(b) {
				continue
			}
			for _, s := range stepScripts(b) {
				next, _ := checkStep(t, b, s)
				checkStep(t, next, s)
			}
		}
	}
}

// The beat that moves into its data phase has every kind of address, and the
// script says everything about it.
func TestAnswersOfEverySlave(t *testing.T) {
	for _, c := range busConfs() {
		for i, addr := range []int{0, 4, 124, 127, 128, 132, 188, 191, 192, 196, 208, 212, 216, 220, 223, 224, 252, 508, 511} {
			for who := range c.Masters {
				r := impl.Req{Addr: addr, Size: 2 * (1 - addr%2), Lock: (i+who)%3 == 0}
				if (i+who)%2 == 0 {
					r.Write, r.Data = true, []int{200}
				}
				checkAnswers(t, c, who, r)
			}
		}
	}
}

// A lock can end with any Last, even if no beat has been granted yet.
func TestLocksThatEndWithAnyLast(t *testing.T) {
	for _, c := range busConfs() {
		for who := range c.Masters {
			for last := range c.Masters {
				b := granted(wantingBus(c, 3, 1<<who), who, -1)
				b.Holder, b.Last = who, last
				next, _ := checkStep(t, b, impl.Script{})
				if len(next.Log) != 4 || len(next.M[who].Queue) != 1 || next.Last != next.Addr.Who {
					t.Errorf("the last beat of %v leads to %v", b, next)
				}
			}
			b := wantingBus(c, 0, 1<<who)
			b.Holder, b.Held, b.Last = who, c.LockMost, -1
			if next, _ := checkStep(t, b, impl.Script{}); !next.M[who].Broken || next.Held != 0 {
				t.Errorf("the lock of %v is not broken in %v", b, next)
			}
		}
	}
}

// A beat is granted with every mix of requests, splits, tokens and broken
// locks.
func TestGrantsOfEveryMix(t *testing.T) {
	for _, kinds := range []string{"n", "p", "np", "pp", "pnp", "ppnn"} {
		c := impl.Conf{Masters: mastersOf(kinds, 500), Quantum: 2, MaxSplit: 12, LockMost: 9}
		masters := len(c.Masters)
		// Four masters can be mixed in far more ways.
		stride := []int{1, 1, 1, 13}[masters-1]
		for mix := 0; mix < 1<<(4*masters); mix += stride {
			b := wantingBus(c, mix%3, mix/3)
			for who := range masters {
				bits := mix >> (4 * who)
				if bits&1 == 1 {
					b.M[who] = impl.Mst{}
				}
				b.M[who].Broken = bits&2 == 2 && bits&1 == 0
				b.Splits[who] = bits >> 2 & 1 * (1 + mix%2)
				b.Buckets[who].Tokens *= bits >> 3 & 1
			}
			for b.Holder = -1; b.Holder < masters; b.Holder++ {
				if wantBusOk(b) {
					next, _ := checkStep(t, b, impl.Script{})
					checkBus(t, next, true)
				}
			}
		}
	}
}

// runTally counts what happens in the runs, so that they show that nothing is
// left out.
type runTally struct {
	responses, grants             [4]int
	backs                         [4]int
	breaks, refused, inside, full int
}

func (n *runTally) add(b impl.Bus, s impl.Script, w impl.Wave, next impl.Bus) {
	if w.Ready && w.Data >= 0 {
		n.responses[w.Resp]++
	}
	if w.Got >= 0 {
		n.grants[next.Addr.By]++
		if next.Addr.First && next.Addr.Beat > 0 {
			n.inside++
		}
	}
	if !w.Ready && w.Resp > 0 && b.Addr.Live {
		n.backs[b.Addr.By]++
	}
	for who := range b.M {
		if next.M[who].Broken && !b.M[who].Broken {
			n.breaks++
		}
	}
	for _, p := range impl.PostsAt(s, b.Now) {
		if len(b.M[p.Who].Queue) == 4 {
			n.refused++
		}
	}
	if len(next.Model.Dev.Fifo) == 4 {
		n.full++
	}
}

func (n *runTally) check(t *testing.T) {
	t.Helper()
	for _, count := range []int{slices.Min(n.responses[:]), slices.Min(n.grants[1:]), slices.Min(n.backs[1:]), n.breaks, n.refused, n.inside, n.full} {
		if count < 20 {
			t.Errorf("something happens too rarely: %v", n)
		}
	}
}

// Whole runs, cycle by cycle. Promise 7: the bus stays valid, and in each
// cycle at most one beat is completed, which is seen as a response.
func TestRunsCycleByCycle(t *testing.T) {
	var tally runTally
	forEachRun(300, func(b impl.Bus, s impl.Script, cycles int) {
		if !impl.ScriptOk(b.Conf, s) {
			t.Fatalf("the script %v is invalid", s)
		}
		for range cycles {
			next, w := checkStep(t, b, s)
			checkBus(t, next, true)
			added := 0
			if w.Ready && w.Data >= 0 && w.Resp <= impl.ReError {
				added = 1
			}
			kept := min(len(b.Log), len(next.Log))
			if next.Now != b.Now+1 || len(next.Log) != len(b.Log)+added || !slices.Equal(next.Log[:kept], b.Log) {
				t.Fatalf("a cycle of %v leads to %v", b, next)
			}
			tally.add(b, s, w, next)
			b = next
		}
	})
	tally.check(t)
}

// Promise 7: cycles can be executed in two parts, and one by one.
func TestRunsInTwoParts(t *testing.T) {
	forEachRun(10, func(b impl.Bus, s impl.Script, cycles int) {
		start, kept := b, cloneBus(b)
		whole, waves := impl.BusRun(start, s, cycles)
		if played, ok := impl.Play(b.Conf, s, cycles); !ok || !sameBusFields(played, whole) || len(waves) != cycles {
			t.Fatalf("Play(%v, %v, %d) = %v, %v, want %v", b.Conf, s, cycles, played, ok, whole)
		}
		for n, want := range waves {
			first, before := impl.BusRun(start, s, n)
			second, after := impl.BusRun(first, s, cycles-n)
			if !sameBusFields(first, b) || !sameBusFields(second, whole) || !slices.Equal(slices.Concat(before, after), waves) {
				t.Fatalf("%d of %d cycles of %v lead to %v and %v, want %v and %v", n, cycles, s, first, second, b, whole)
			}
			next, w := impl.BusStep(b, s)
			if w != want || w.Cycle != n {
				t.Fatalf("cycle %d of %v is %q, want %q", n, s, waveText(w), waveText(want))
			}
			b = next
		}
		if !sameBusFields(start, kept) || !sameBusFields(b, whole) {
			t.Fatalf("%v leads to %v, want %v", start, b, whole)
		}
	})
}

// The beats of each master are completed in the order of the requests that its
// queue had room for, and the log tells what the model has executed.
func TestRunsCompleteBeatsInOrder(t *testing.T) {
	forEachRun(60, func(b impl.Bus, s impl.Script, cycles int) {
		want := make([][]impl.Done, len(b.M))
		for range cycles {
			room := make([]int, len(b.M))
			for who, m := range b.M {
				room[who] = 4 - len(m.Queue)
			}
			for _, p := range s.Posts {
				if p.At != b.Now || room[p.Who] == 0 {
					continue
				}
				room[p.Who]--
				for _, addr := range wantAddrs(p.Req.Addr, p.Req.Size, p.Req.Burst) {
					want[p.Who] = append(want[p.Who], impl.Done{Who: p.Who, Write: p.Req.Write, Addr: addr, Size: p.Req.Size})
				}
			}
			b, _ = impl.BusStep(b, s)
		}
		model, seen := impl.ModelNew(), make([]int, len(b.M))
		for _, d := range b.Log {
			if seen[d.Who] == len(want[d.Who]) || (impl.Done{Who: d.Who, Write: d.Write, Addr: d.Addr, Size: d.Size}) != want[d.Who][seen[d.Who]] {
				t.Fatalf("the log of %v contains %v as beat %d of its master", s, d, seen[d.Who])
			}
			seen[d.Who]++
			next, n, resp := wantModelDo(model, d.Write, d.Addr, d.Size, d.Value)
			if d.Resp == 0 && (n != d.Value || resp != 0) || d.Resp != 0 && d.Value != 0 {
				t.Fatalf("the model returns %d, %d for %v", n, resp, d)
			}
			if d.Resp == 0 {
				model = next
			}
		}
		if !sameModelFields(model, b.Model) {
			t.Fatalf("the log of %v leads to %v, not to %v", s, model, b.Model)
		}
	})
}

// lockWatch follows the locks and splits of a run from cycle to cycle.
type lockWatch struct {
	t      *testing.T
	script impl.Script
	held   int   // the cycles that the present lock has lasted
	free   []int // for each master, the first cycle in which it may be granted
	parted []bool
	locks  int
	splits int
}

// see checks one cycle between two buses. A bus that is held has counted at
// least one cycle after the one in which the lock begins.
func (l *lockWatch) see(b impl.Bus, w impl.Wave, next impl.Bus) {
	holder := b.Holder
	goesOn := holder >= 0 && next.Holder == holder && next.Held > 0
	switch {
	case goesOn:
		l.held++
		if w.Got != -1 && w.Got != holder {
			l.t.Fatalf("in cycle %d, %d is granted while %d holds the bus", w.Cycle, w.Got, holder)
		}
	case holder >= 0:
		l.ended(b, w, next)
	}
	// At the limit, all wait states of the device and the first cycle of its
	// response can still come.
	if l.held > b.Conf.LockMost+b.Conf.MaxWait+3 {
		l.t.Fatalf("%d has held the bus for %d cycles", holder, l.held)
	}
	if !goesOn {
		l.held = 0
		if next.Holder >= 0 {
			l.began(w, next)
		}
	}
	if len(next.Log) > len(b.Log) {
		d := next.Log[len(b.Log)]
		l.parted[d.Who] = false
		if b.M[d.Who].Broken && d.Resp != impl.ReError {
			l.t.Fatalf("%v is completed although the lock is broken", d)
		}
	}
	l.seeSplit(b, w, next)
}

func (l *lockWatch) began(w impl.Wave, next impl.Bus) {
	l.locks++
	m := next.M[next.Holder]
	if w.Got != next.Holder || next.Held != 0 || !m.Queue[0].Lock || m.Broken {
		l.t.Fatalf("the lock of %d begins in cycle %d: %v", next.Holder, w.Cycle, next)
	}
}

// ended checks that a lock has ended with its request or was broken, but not
// too early.
func (l *lockWatch) ended(b impl.Bus, w impl.Wave, next impl.Bus) {
	if next.M[b.Holder].Broken {
		if l.held+1 < b.Conf.LockMost || !w.Ready {
			l.t.Fatalf("the lock of %d is broken after %d cycles", b.Holder, l.held)
		}
		return
	}
	if !w.Ready || w.From != b.Holder || b.Data.Beat != len(wantBeats(b.M[b.Holder]))-1 || len(next.Log) == len(b.Log) {
		l.t.Fatalf("the lock of %d ends in cycle %d: %v", b.Holder, w.Cycle, next)
	}
}

func (l *lockWatch) seeSplit(b impl.Bus, w impl.Wave, next impl.Bus) {
	if w.Got >= 0 && w.Cycle < l.free[w.Got] {
		l.t.Fatalf("%d is granted in cycle %d, before %d", w.Got, w.Cycle, l.free[w.Got])
	}
	if !w.Ready || w.Resp != impl.ReSplit {
		return
	}
	l.splits++
	if w.From == b.Holder || l.parted[w.From] || w.Got == w.From {
		l.t.Fatalf("%d is split in cycle %d: %v", w.From, w.Cycle, next)
	}
	l.free[w.From] = w.Cycle + wantSplit(b.Conf, l.script, b.Picks)
	l.parted[w.From] = true
}

// Promise 12: while a master holds the bus no other one is granted, no longer
// than permitted; a split master is not granted until it may return.
func TestRunsWithLocksAndSplits(t *testing.T) {
	locks, splits := 0, 0
	forEachRun(250, func(b impl.Bus, s impl.Script, cycles int) {
		l := lockWatch{t: t, script: s, free: make([]int, len(b.M)), parted: make([]bool, len(b.M))}
		for range cycles {
			next, w := impl.BusStep(b, s)
			l.see(b, w, next)
			b = next
		}
		locks += l.locks
		splits += l.splits
	})
	if locks < 300 || splits < 300 {
		t.Errorf("only %d locks and %d splits", locks, splits)
	}
}

// Promise 12: a split master comes back after exactly as many cycles as it was
// sent away for, with and without another master that is granted in the
// meantime.
func TestSplitMasterReturnsInTime(t *testing.T) {
	for away := 1; away <= 12; away++ {
		s := script(t, "waits 0 "+strconv.Itoa(away-1)+"\nsays 3\npost 0 0 read byte one 130\npost 2 1 read byte eight 0\npost 2 1 read byte eight 8\n")
		for _, c := range []impl.Conf{conf(t, "1 0 0 12 5 1 1"), conf(t, "1 0 0 12 5 1")} {
			b, _ := impl.BusNew(c)
			_, waves := impl.BusRun(b, s, 40)
			// Cycle 3 is the second one of the response.
			if w := waves[3]; !w.Ready || w.Resp != impl.ReSplit || w.From != 0 {
				t.Errorf("away for %d: %q", away, waveText(w))
			}
			var first, second []int
			for _, w := range waves {
				switch w.Got {
				case 0:
					first = append(first, w.Cycle)
				case 1:
					second = append(second, w.Cycle)
				}
			}
			if !slices.Equal(first, []int{0, 3 + away}) {
				t.Errorf("away for %d: granted in the cycles %v", away, first)
			}
			if len(c.Masters) == 2 && (len(second) != 16 || second[0] != 3) {
				t.Errorf("away for %d: the other master is granted in the cycles %v", away, second)
			}
		}
	}
}

// Promise 12: a lock is broken in the first ready cycle in which it has lasted
// LockMost cycles. The rest of its beats are errors and change nothing.
func TestLockIsBrokenInTime(t *testing.T) {
	for most := 1; most <= 11; most++ {
		c := impl.Conf{Masters: mastersOf("n", 0), Quantum: 1, MaxSplit: 1, LockMost: most}
		s := script(t, "post 0 0 write byte eight 0 lock 1 2 3 4 5 6 7 8\n")
		b, _ := impl.Play(c, s, 40)
		// Without waits, beat k is in its data phase from cycle 1+k on, and is
		// completed in cycle 2+k. The lock begins in cycle 0.
		for k, d := range b.Log {
			okay := 1+k < most
			if okay && (d.Resp != 0 || d.Value != k+1 || d.Cycle != 2+k) || !okay && (d.Resp != 1 || d.Value != 0) {
				t.Errorf("with LockMost %d, beat %d is %v", most, k, d)
			}
		}
		want := slices.Concat([]int{1, 2, 3, 4, 5, 6, 7, 8}[:min(most-1, 8)], make([]int, 8))[:8]
		if !slices.Equal(b.Model.Mem[:8], want) || len(b.Log) != 8 || !impl.IdleBus(b) {
			t.Errorf("with LockMost %d, the memory is %v and the log is %v", most, b.Model.Mem[:8], b.Log)
		}
	}
}

// The longest lock: when its time is up, a beat has just begun that waits for
// the device and is refused by it.
func TestLongestLock(t *testing.T) {
	b := checkWaves(t, conf(t, "1 3 0 1 2 1 1"), script(t, "waits 0 3\npost 0 1 read word four 212 lock\npost 0 0 read word one 0\n"), `
		0 idle -:- -:- ready okay 1
		1 first 1:212 -:- ready okay 1
		2 next 1:216 1:212 wait okay -
		3 next 1:216 1:212 wait okay -
		4 next 1:216 1:212 wait error -
		5 idle -:- 1:212 ready error 0
		6 first 0:0 -:- ready okay 1
		7 first 1:216 0:0 wait okay -
		8 first 1:216 0:0 wait okay -
		9 first 1:216 0:0 wait okay -
		10 first 1:216 0:0 ready okay 1
		11 next 1:220 1:216 wait error -
		12 idle -:- 1:216 ready error 1
		13 next 1:220 -:- ready okay 1
		14 next 1:224 1:220 wait error -
		15 idle -:- 1:220 ready error 1
		16 next 1:224 -:- ready okay -
		17 idle -:- 1:224 wait error -
		18 idle -:- 1:224 ready error -`)
	if !impl.IdleBus(b) || len(b.Log) != 5 {
		t.Error(b)
	}
}

// A post comes too early by one cycle if the queue is full, even if a request
// is completed in the same cycle.
func TestPostToAFullQueue(t *testing.T) {
	c, r := conf(t, "1 0 0 1 5 1"), impl.Req{Addr: 9}
	for at := range 8 {
		s := impl.Script{Posts: []impl.Post{{Req: r}, {Req: r}, {Req: r}, {Req: r}, {Req: r}, {At: at, Req: impl.Req{Addr: 7}}}}
		b, _ := impl.Play(c, s, 30)
		// The first request is completed in cycle 2.
		want := []int{9, 9, 9, 9, 7}
		if at < 3 {
			want = want[:4]
		}
		var got []int
		for _, d := range b.Log {
			got = append(got, d.Addr)
		}
		if !slices.Equal(got, want) || !impl.IdleBus(b) {
			t.Errorf("with a post at %d, the addresses %v are completed", at, got)
		}
	}
}

// The device is asked when a beat moves into its data phase, after the beat
// before it has changed the device.
func TestBeatSeesTheOneBeforeIt(t *testing.T) {
	b, _ := impl.Play(conf(t, "1 0 0 1 5 1"), script(t, "post 0 0 write word one 212 77\npost 0 0 read word four 208\npost 9 0 read word one 212\n"), 60)
	checkIdle(t, b,
		impl.Done{Cycle: 4, Write: true, Addr: 212, Size: 2, Value: 77}, impl.Done{Cycle: 8, Addr: 208, Size: 2}, impl.Done{Cycle: 11, Addr: 212, Size: 2, Value: 77},
		impl.Done{Cycle: 15, Addr: 216, Size: 2, Resp: 1}, impl.Done{Cycle: 20, Addr: 220, Size: 2, Resp: 1}, impl.Done{Cycle: 25, Addr: 212, Size: 2, Resp: 1},
	)
	if b.Model.Dev.Timer != 1 || len(b.Model.Dev.Fifo) != 0 {
		t.Error(b.Model.Dev)
	}
}

// checkNoCycle checks that nothing is executed.
func checkNoCycle(t *testing.T, b impl.Bus, s impl.Script, counts ...int) {
	t.Helper()
	if got, w := impl.BusStep(b, s); !sameBusFields(got, b) || w != (impl.Wave{}) {
		t.Errorf("BusStep(%v) = %v, %v", b, got, w)
	}
	for _, n := range counts {
		if got, waves := impl.BusRun(b, s, n); !sameBusFields(got, b) || len(waves) != 0 {
			t.Errorf("BusRun(%v, %d) = %v, %v", b, n, got, waves)
		}
	}
}

func TestInvalidBusesAreReturnedUnchanged(t *testing.T) {
	s := script(t, "post 30 0 read word one 0\npost 0 0 read word one 0\n")
	checkNoCycle(t, impl.Bus{}, s, 0, 1, 2, -1)
	checkNoCycle(t, impl.Bus{Holder: -1, Last: -1, Model: impl.ModelNew()}, s, 0, 1)
	bases := append(handRun()[4:8], granted(wantingBus(busConfs()[2], 1, 0), 0, 2), busOf(busConfs()[1]), lockBegun(busConfs()[1], 1, 0))
	for _, base := range bases {
		forEachChange(base, func(b impl.Bus) {
			if !wantBusOk(b) {
				checkNoCycle(t, b, s, 0, 1, 3, -1, 4000-b.Now, b.Now-4000)
			}
		})
	}
}

func TestNoCycleAfterTheLast(t *testing.T) {
	for _, c := range busConfs() {
		b := granted(wantingBus(c, 0, 0), 0, len(c.Masters)-1)
		s := impl.Script{Posts: []impl.Post{{At: 4000, Req: impl.Req{Addr: 5}}, {At: 3999, Req: impl.Req{Addr: 6}}}}
		b.Now = 4000
		checkNoCycle(t, b, s, 0, 1, 2, -1, math.MaxInt, math.MinInt)
		checkBus(t, b, true)
		b.Now = 3999
		next, w := checkStep(t, b, s)
		if next.Now != 4000 || w.Cycle != 3999 || len(next.M[0].Queue) == len(b.M[0].Queue) {
			t.Errorf("the last cycle of %v leads to %v", b, next)
		}
		checkNoCycle(t, next, s, 0, 1)
	}
}

func TestBusRunOfEveryNumberOfCycles(t *testing.T) {
	for _, now := range []int{0, 1, 30, 3990, 3999, 4000} {
		b := busOf(busConfs()[1])
		b.Now, b.Picks, b.Log = now, 0, nil
		s := impl.Script{Posts: []impl.Post{{At: now, Req: queueOf(3)[0]}}}
		for _, n := range []int{math.MinInt, -4000, -2, -1, 4001 - now, 4002 - now, 4001, 8000, 1 << 32, 1<<32 + 1, math.MaxInt - now, math.MaxInt} {
			if got, waves := impl.BusRun(b, s, n); !sameBusFields(got, b) || len(waves) != 0 {
				t.Errorf("BusRun of %d cycles from %d on leads to %d, with %d waves", n, now, got.Now, len(waves))
			}
		}
		for _, n := range []int{0, 1, 2, 3999 - now, 4000 - now} {
			if n < 0 || n > 4000-now {
				continue
			}
			got, waves := impl.BusRun(b, s, n)
			if got.Now != now+n || len(waves) != n {
				t.Errorf("BusRun of %d cycles from %d on leads to %d, with %d waves", n, now, got.Now, len(waves))
			}
			if n == 0 && !sameBusFields(got, b) {
				t.Errorf("BusRun of no cycles leads from %v to %v", b, got)
			}
		}
	}
}

func checkNoPlay(t *testing.T, c impl.Conf, s impl.Script, n int) {
	t.Helper()
	if b, ok := impl.Play(c, s, n); ok || !sameBusFields(b, impl.Bus{}) {
		t.Errorf("Play(%v, %v, %d) = %v, %v", c, s, n, b, ok)
	}
}

func TestPlayOfInvalidScripts(t *testing.T) {
	c, good := busConfs()[1], scriptOf(20, 20, 20)
	for _, change := range []func(s *impl.Script){
		func(s *impl.Script) { s.Posts = scriptOf(21, 0, 0).Posts }, func(s *impl.Script) { s.Waits = make([]int, 21) }, func(s *impl.Script) { s.Says = make([]int, 21) },
		func(s *impl.Script) { s.Posts[0].At = 1 << 20 }, func(s *impl.Script) { s.Posts[19].At = 4001 }, func(s *impl.Script) { s.Posts[0].At = -1 },
		func(s *impl.Script) { s.Posts[7].Who = 2 }, func(s *impl.Script) { s.Posts[7].Who = -1 }, func(s *impl.Script) { s.Posts[19].Req.Size = 3 },
	} {
		s := cloneScript(good)
		change(&s)
		checkNoPlay(t, c, s, 5)
		checkNoPlay(t, c, s, 0)
	}
	for _, bad := range badWrrConfs() {
		checkNoPlay(t, bad, impl.Script{}, 5)
		checkNoPlay(t, bad, impl.Script{}, 0)
	}
	for _, n := range []int{-1, -2, 4001, 4002, 1 << 32, math.MaxInt, math.MinInt} {
		checkNoPlay(t, c, good, n)
	}
	for _, n := range []int{0, 1, 2, 39, 40, 3999, 4000} {
		start, _ := impl.BusNew(c)
		want, _ := impl.BusRun(start, good, n)
		if b, ok := impl.Play(c, good, n); !ok || b.Now != n || !sameBusFields(b, want) || !impl.BusOk(b) {
			t.Errorf("Play of %d cycles = %v, %v", n, b, ok)
		}
	}
}

// fillBus overwrites all lists of a bus and the capacity after them, and
// checks that none of them is a part of another one.
func fillBus(t *testing.T, b impl.Bus) {
	t.Helper()
	lists := [][]int{b.Splits, b.Model.Mem, b.Model.Dev.Regs, b.Model.Dev.Fifo}
	for _, m := range b.M {
		for _, r := range m.Queue {
			lists = append(lists, r.Data)
		}
	}
	for i, list := range lists {
		for j := range list[:cap(list)] {
			list[:cap(list)][j] = 5000 + i
		}
	}
	for i, list := range lists {
		for _, v := range list[:cap(list)] {
			if v != 5000+i {
				t.Fatal("two lists of a bus are one")
			}
		}
	}
	for i, m := range b.M {
		for j := range m.Queue[:cap(m.Queue)] {
			m.Queue[:cap(m.Queue)][j].Addr = 6000 + i
		}
	}
	for i, m := range b.M {
		for _, r := range m.Queue[:cap(m.Queue)] {
			if r.Addr != 6000+i {
				t.Fatal("two queues of a bus are one")
			}
		}
		clear(m.Queue[:cap(m.Queue)])
	}
	clear(b.M[:cap(b.M)])
	clear(b.Conf.Masters[:cap(b.Conf.Masters)])
	clear(b.Buckets[:cap(b.Buckets)])
	clear(b.Log[:cap(b.Log)])
}

// sharingBus returns the bus with lists that are all parts of the same memory
// where they can be.
func sharingBus(b impl.Bus) impl.Bus {
	b = cloneBus(b)
	ints := make([]int, 0, 4000)
	for _, list := range []*[]int{&b.Model.Mem, &b.Model.Dev.Regs, &b.Model.Dev.Fifo, &b.Splits} {
		from := len(ints)
		ints = append(ints, *list...)
		*list = ints[from:]
	}
	for who, m := range b.M {
		if who > 0 && slices.EqualFunc(m.Queue, b.M[0].Queue, sameFields) {
			b.M[who].Queue = b.M[0].Queue
		}
	}
	return b
}

// roomyScript returns a copy that has capacity left behind each of its lists.
func roomyScript(s impl.Script) impl.Script {
	s = cloneScript(s)
	s.Posts = append(s.Posts, impl.Post{Who: 81})[:len(s.Posts)]
	for i, p := range s.Posts {
		s.Posts[i].Req.Data = append(p.Req.Data, 82)[:len(p.Req.Data)]
	}
	s.Waits = append(s.Waits, 83)[:len(s.Waits)]
	s.Says = append(s.Says, 84)[:len(s.Says)]
	return s
}

// wholeScript returns the script with all the capacity of its lists.
func wholeScript(s impl.Script) impl.Script {
	s.Posts = slices.Clone(s.Posts[:cap(s.Posts)])
	for i, p := range s.Posts {
		s.Posts[i].Req.Data = p.Req.Data[:cap(p.Req.Data)]
	}
	s.Waits, s.Says = s.Waits[:cap(s.Waits)], s.Says[:cap(s.Says)]
	return s
}

// checkNewMemory calls a function of a bus and a script that returns a bus,
// and checks that it keeps its arguments, and that the result is new memory.
func checkNewMemory(t *testing.T, b impl.Bus, s impl.Script, call func(b impl.Bus, s impl.Script) impl.Bus) {
	t.Helper()
	want := cloneBus(call(cloneBus(b), cloneScript(s)))
	s = roomyScript(s)
	for _, b := range []impl.Bus{roomyBus(b), sharingBus(b)} {
		kept, keptScript := cloneBus(wholeBus(b)), cloneScript(wholeScript(s))
		got, other := call(b, s), call(b, s)
		if !sameBusFields(got, want) {
			t.Fatalf("a bus leads to %v, its copy to %v", got, want)
		}
		fillBus(t, got)
		if !sameBusFields(other, want) {
			t.Fatal("two results share memory")
		}
		if !sameBusFields(wholeBus(b), kept) || !sameScriptFields(wholeScript(s), keptScript) {
			t.Fatalf("the arguments %v and %v are now %v and %v", kept, keptScript, wholeBus(b), wholeScript(s))
		}
	}
}

func TestStepFunctionsKeepTheirArguments(t *testing.T) {
	for i, b := range append(someBuses(), handRun()...) {
		if i%3 == 2 {
			b.Data.Who, b.Holder = 1-b.Data.Who, 0
		}
		s := stepScripts(b)[i%5]
		checkNewMemory(t, b, s, func(b impl.Bus, s impl.Script) impl.Bus { next, _ := impl.BusStep(b, s); return next })
		for _, n := range []int{0, 1, 12, -1} {
			checkNewMemory(t, b, s, func(b impl.Bus, s impl.Script) impl.Bus { next, _ := impl.BusRun(b, s, n); return next })
		}
	}
	forEachRun(20, func(b impl.Bus, s impl.Script, cycles int) {
		for _, n := range []int{0, 1, 9, cycles} {
			checkNewMemory(t, b, s, func(b impl.Bus, s impl.Script) impl.Bus { next, _ := impl.Play(b.Conf, s, n); return next })
			checkNewMemory(t, b, s, func(b impl.Bus, s impl.Script) impl.Bus { next, _ := impl.BusRun(b, s, n); return next })
		}
	})
}

// The waves of two runs are not one list.
func TestWavesAreNewMemory(t *testing.T) {
	forEachRun(3, func(b impl.Bus, s impl.Script, cycles int) {
		_, first := impl.BusRun(b, s, cycles)
		_, second := impl.BusRun(b, s, cycles)
		kept := slices.Clone(second)
		clear(first[:cap(first)])
		if !slices.Equal(second, kept) {
			t.Error("two results share their waves")
		}
	})
}
