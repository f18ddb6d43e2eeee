package tests

import (
	"math"
	"regexp"
	"slices"
	"strconv"
	"strings"
	"testing"

	"loop.example/g01623/impl"
)

// reqGrammar describes how requests are written, but not which of them are
// valid.
var reqGrammar = regexp.MustCompile(`^(write|read) (byte|half|word) (one|four|wrap|eight) (0|[1-9][0-9]*)( lock)?((?: (?:0|[1-9][0-9]*))*)$`)

func sizeWords() []string {
	return []string{"byte", "half", "word"}
}

func burstWords() []string {
	return []string{"one", "four", "wrap", "eight"}
}

// wantReq reads a request with the grammar, and checks it with the addresses
// that the tests of bursts compute.
func wantReq(s string) (impl.Req, bool) {
	parts := reqGrammar.FindStringSubmatch(s)
	if parts == nil {
		return impl.Req{}, false
	}
	addr, err := strconv.ParseInt(parts[4], 10, 64)
	if err != nil {
		return impl.Req{}, false
	}
	r := impl.Req{Write: parts[1] == "write", Addr: int(addr), Lock: parts[5] != ""}
	r.Size = slices.Index(sizeWords(), parts[2])
	r.Burst = slices.Index(burstWords(), parts[3])
	for _, word := range strings.Fields(parts[6]) {
		v, err := strconv.ParseUint(word, 10, []int{8, 16, 32}[r.Size])
		if err != nil {
			return impl.Req{}, false
		}
		r.Data = append(r.Data, int(v))
	}
	l := wantAddrs(r.Addr, r.Size, r.Burst)
	if len(l) == 0 || slices.Min(l)>>6 != slices.Max(l)>>6 || r.Write && len(r.Data) != len(l) || !r.Write && len(r.Data) > 0 {
		return impl.Req{}, false
	}
	return r, true
}

// wantReqText joins the words of a valid request.
func wantReqText(r impl.Req) string {
	s := map[bool]string{true: "write ", false: "read "}[r.Write]
	s += sizeWords()[r.Size] + " " + burstWords()[r.Burst] + " " + strconv.Itoa(r.Addr)
	if r.Lock {
		s += " lock"
	}
	for _, v := range r.Data {
		s += " " + strconv.FormatInt(int64(v), 10)
	}
	return s
}

// dataFor returns as many numbers of a size as there are beats, starting with
// the one at place from of all the numbers to try.
func dataFor(size, beats, from int) []int {
	numbers := numbersOf(size)
	l := make([]int, beats)
	for i := range l {
		l[i] = numbers[(from+i)%len(numbers)]
	}
	return l
}

// forEachReq calls f with requests of every size, burst and start, of which
// those whose burst is possible are valid.
func forEachReq(f func(r impl.Req)) {
	forEachStart(func(addr, size, burst int) {
		r := impl.Req{Addr: addr, Size: size, Burst: burst, Lock: addr&4 != 0}
		f(r)
		r.Lock = !r.Lock
		r.Write = true
		r.Data = dataFor(size, []int{1, 4, 4, 8}[burst], addr+100)
		f(r)
	})
}

// validReqs returns one read and one write for each size, burst and lock, in
// which all numbers are as large as they can be.
func validReqs() []impl.Req {
	var l []impl.Req
	for size := range 3 {
		for burst, beats := range []int{1, 4, 4, 8} {
			for _, lock := range []bool{false, true} {
				r := impl.Req{Addr: 512 - beats<<size, Size: size, Burst: burst, Lock: lock}
				l = append(l, r)
				r.Write = true
				r.Data = slices.Repeat([]int{1<<(8<<size) - 1}, beats)
				l = append(l, r)
			}
		}
	}
	return l
}

// sameFields compares two requests without the program.
func sameFields(a, b impl.Req) bool {
	return a.Write == b.Write && a.Addr == b.Addr && a.Size == b.Size && a.Burst == b.Burst && a.Lock == b.Lock && slices.Equal(a.Data, b.Data)
}

func checkInvalidReq(t *testing.T, r impl.Req) {
	t.Helper()
	if impl.ReqOk(r) {
		t.Errorf("ReqOk(%v) is true", r)
	}
	if got := impl.ReqText(r); got != "" {
		t.Errorf("ReqText(%v) = %q, want none", r, got)
	}
}

// checkRead checks that s is read as the grammar says, or not at all.
func checkRead(t *testing.T, s string) {
	t.Helper()
	want, wantOk := wantReq(s)
	if got, ok := impl.ReadReq(s); ok != wantOk || !sameFields(got, want) {
		t.Errorf("ReadReq(%.300q) = %v, %v, want %v, %v", s, got, ok, want, wantOk)
	}
}

func checkNoReq(t *testing.T, s string) {
	t.Helper()
	if got, ok := impl.ReadReq(s); ok || !sameFields(got, impl.Req{}) {
		t.Errorf("ReadReq(%.300q) = %v, %v, want none", s, got, ok)
	}
}

func TestReqTextExamples(t *testing.T) {
	for _, c := range []struct {
		r    impl.Req
		want string
	}{
		{impl.Req{Write: true, Addr: 8, Size: 2, Lock: true, Data: []int{77}}, "write word one 8 lock 77"}, // the document's example
		{impl.Req{}, "read byte one 0"},
		{impl.Req{Lock: true}, "read byte one 0 lock"},
		{impl.Req{Addr: 511}, "read byte one 511"},
		{impl.Req{Addr: 6, Size: 1, Burst: impl.BuWrap}, "read half wrap 6"},
		{impl.Req{Addr: 480, Size: 2, Burst: impl.BuEight, Lock: true}, "read word eight 480 lock"},
		{impl.Req{Write: true, Addr: 3, Burst: impl.BuFour, Data: []int{0, 255, 10, 9}}, "write byte four 3 0 255 10 9"},
		{impl.Req{Write: true, Size: 1, Burst: impl.BuOne, Data: []int{65535}}, "write half one 0 65535"},
		{impl.Req{Write: true, Addr: 508, Size: 2, Burst: impl.BuWrap, Lock: true, Data: []int{4294967295, 0, 1, 4294967294}}, "write word wrap 508 lock 4294967295 0 1 4294967294"},
	} {
		if got := impl.ReqText(c.r); got != c.want {
			t.Errorf("ReqText(%v) = %q, want %q", c.r, got, c.want)
		}
		if !impl.ReqOk(c.r) {
			t.Errorf("ReqOk(%v) is false", c.r)
		}
		if got, ok := impl.ReadReq(c.want); !ok || !sameFields(got, c.r) {
			t.Errorf("ReadReq(%q) = %v, %v", c.want, got, ok)
		}
	}
}

func TestReqOkEverywhere(t *testing.T) {
	forEachReq(func(r impl.Req) {
		l := wantAddrs(r.Addr, r.Size, r.Burst)
		if len(l) == 0 || slices.Min(l)>>6 != slices.Max(l)>>6 {
			checkInvalidReq(t, r)
			return
		}
		if !impl.ReqOk(r) {
			t.Errorf("ReqOk(%v) is false", r)
		}
	})
}

// Promise 3: a request can be parsed from its text.
func TestReadReqInvertsReqText(t *testing.T) {
	found := 0
	forEachReq(func(r impl.Req) {
		if !impl.ReqOk(r) {
			return
		}
		found++
		s := impl.ReqText(r)
		if s != wantReqText(r) {
			t.Errorf("ReqText(%v) = %q", r, s)
		}
		if got, ok := impl.ReadReq(s); !ok || !sameFields(got, r) || !impl.SameReq(got, r) {
			t.Errorf("ReadReq(%q) = %v, %v", s, got, ok)
		}
	})
	if want := 2 * 8 * (4*(64+32+16) - 3*(3+7)); found != want {
		t.Errorf("%d requests are valid, want %d", found, want)
	}
}

func TestReqsOfTheLargestNumbers(t *testing.T) {
	for _, r := range validReqs() {
		s := wantReqText(r)
		if got := impl.ReqText(r); !impl.ReqOk(r) || got != s {
			t.Errorf("ReqText(%v) = %q", r, got)
		}
		if got, ok := impl.ReadReq(s); !ok || !sameFields(got, r) {
			t.Errorf("ReadReq(%q) = %v, %v", s, got, ok)
		}
	}
}

// The edge case of the stage: a write has one number for each beat and a read
// has none; one too many is refused like any other wrong count.
func TestReqsNeedOneNumberForEachBeat(t *testing.T) {
	for size := range 3 {
		for burst, beats := range []int{1, 4, 4, 8} {
			for count := range 20 {
				for _, lock := range []bool{false, true} {
					w := impl.Req{Write: true, Addr: 64, Size: size, Burst: burst, Lock: lock, Data: dataFor(size, count, count)}
					r := w
					r.Write = false
					if count != beats {
						checkInvalidReq(t, w)
						checkNoReq(t, wantReqText(w))
					} else if got, ok := impl.ReadReq(wantReqText(w)); !impl.ReqOk(w) || !ok || !sameFields(got, w) {
						t.Errorf("ReadReq(%q) = %v, %v", wantReqText(w), got, ok)
					}
					if count > 0 {
						checkInvalidReq(t, r)
						checkNoReq(t, wantReqText(r))
					}
				}
			}
		}
	}
}

func TestReadsNeedNoNumbers(t *testing.T) {
	for burst, beats := range []int{1, 4, 4, 8} {
		r := impl.Req{Size: 2, Burst: burst, Data: []int{}}
		if !impl.ReqOk(r) || impl.ReqText(r) != "read word "+burstWords()[burst]+" 0" {
			t.Errorf("ReqText(%v) = %q", r, impl.ReqText(r))
		}
		r.Data = make([]int, beats)
		checkInvalidReq(t, r)
		r.Write, r.Data = true, []int{}
		checkInvalidReq(t, r)
		r.Data = nil
		checkInvalidReq(t, r)
	}
}

func TestReqDataOneBeyondTheLimit(t *testing.T) {
	for _, r := range validReqs() {
		for i := range r.Data {
			for _, v := range beyondLimit(r.Size) {
				bad := r
				bad.Data = slices.Clone(r.Data)
				bad.Data[i] = v
				checkInvalidReq(t, bad)
				checkNoReq(t, wantReqText(bad))
			}
		}
	}
}

func TestReqsNeedAValidBurst(t *testing.T) {
	for _, write := range []bool{false, true} {
		for count := range 9 {
			if !write && count > 0 {
				continue
			}
			r := impl.Req{Write: write, Addr: 8, Size: 2, Burst: impl.BuOne, Data: make([]int, count)}
			for _, size := range invalidSizes() {
				bad := r
				bad.Size = size
				checkInvalidReq(t, bad)
			}
			for _, burst := range invalidBursts() {
				bad := r
				bad.Burst = burst
				checkInvalidReq(t, bad)
			}
			for _, addr := range append(outsideAddrs(), 1, 2, 3, 6, 510, 511) {
				bad := r
				bad.Addr = addr
				checkInvalidReq(t, bad)
				checkNoReq(t, wantReqText(bad))
			}
		}
	}
	for _, r := range []impl.Req{{Addr: 60, Size: 2, Burst: impl.BuFour}, {Addr: 57, Burst: impl.BuEight}, {Addr: 500, Size: 2, Burst: impl.BuFour}} {
		checkInvalidReq(t, r)
		checkNoReq(t, wantReqText(r))
	}
}

func TestSameReqComparesEachField(t *testing.T) {
	a := impl.Req{Write: true, Addr: 8, Size: 1, Burst: impl.BuFour, Lock: false, Data: []int{1, 2, 3, 4}}
	b := a
	b.Data = append(make([]int, 0, 20), 1, 2, 3, 4)
	if !impl.SameReq(a, a) || !impl.SameReq(a, b) || !impl.SameReq(b, a) {
		t.Error("equal requests differ")
	}
	for i, change := range []func(r *impl.Req){
		func(r *impl.Req) { r.Write = false },
		func(r *impl.Req) { r.Addr = 9 },
		func(r *impl.Req) { r.Addr += 1 << 32 },
		func(r *impl.Req) { r.Size = 2 },
		func(r *impl.Req) { r.Burst = impl.BuWrap },
		func(r *impl.Req) { r.Lock = true },
		func(r *impl.Req) { r.Data = []int{1, 2, 3, 5} },
		func(r *impl.Req) { r.Data = []int{0, 2, 3, 4} },
		func(r *impl.Req) { r.Data = []int{4, 3, 2, 1} },
		func(r *impl.Req) { r.Data = []int{1, 2, 3} },
		func(r *impl.Req) { r.Data = []int{1, 2, 3, 4, 0} },
		func(r *impl.Req) { r.Data = nil },
	} {
		c := a
		change(&c)
		if impl.SameReq(a, c) || impl.SameReq(c, a) {
			t.Errorf("change %d is not seen: %v", i, c)
		}
	}
}

// Whether a request is valid does not matter for its comparison, and neither
// does whether an empty list is nil.
func TestSameReqOfAnyReqs(t *testing.T) {
	odd := impl.Req{Addr: math.MinInt, Size: -1, Burst: 99, Data: []int{-1, math.MaxInt}}
	same := odd
	same.Data = slices.Clone(odd.Data)
	if !impl.SameReq(odd, same) || impl.SameReq(odd, impl.Req{}) {
		t.Error("invalid requests are not compared")
	}
	if !impl.SameReq(impl.Req{}, impl.Req{Data: []int{}}) || !impl.SameReq(impl.Req{Data: []int{}}, impl.Req{}) {
		t.Error("a nil list and an empty one differ")
	}
}

func TestReadReqExamplesOfOtherTexts(t *testing.T) {
	for _, s := range []string{
		"", " ", "   ", "    ", "write", "read", "read byte", "read byte one", "read byte one ", "read byte one 0 ", " read byte one 0", "read  byte one 0", "read byte one  0", "read byte one 0  lock",
		"read\tbyte one 0", "read byte one 0\n", "read byte one 0\x00", "read\u00a0byte one 0", "READ byte one 0", "Read byte one 0", "reads byte one 0", "idle byte one 0", " byte one 0", "true byte one 0",
		"read bytes one 0", "read 0 one 0", "read  one 0", "read long one 0", "read Half one 0", "read one byte 0", "read byte 0 0", "read byte  0", "read byte two 0", "read byte ones 0", "read byte single 0",
		"read byte one 00", "read byte one 07", "read byte one +7", "read byte one -0", "read byte one -1", "read byte one 0x7", "read byte one 1_0", "read byte one 7.", "read byte one 7e0", "read byte one \u0667", "read byte one lock", "read byte one lock 0",
		"read byte one 512", "read byte one 513", "read byte one 4294967296", "read byte one 18446744073709551616", "read byte one 18446744073709551617", "read byte one 9223372036854775807", "read byte one -9223372036854775808",
		"read half one 1", "read word one 2", "read word one 510", "read word four 52", "read word eight 484", "read byte one 0 0", "read byte one 0 lock 0", "read byte one 0 lock lock", "read byte one 0 locked", "read byte one 0 LOCK", "read byte one 0 unlock",
		"write byte one 0", "write byte one 0 lock", "write byte one 0 lock lock", "write byte one 0 1 lock", "write byte one 0 lock 1 lock", "write byte one 0 1 2", "write byte one 0 lock 1 2", "write byte one 0 256", "write byte one 0 -1", "write byte one 0 -0", "write byte one 0 +1", "write byte one 0 01", "write byte one 0 x", "write byte one 0  1", "write byte one 0 ",
		"write half one 0 65536", "write word one 0 4294967296", "write word one 0 18446744073709551616", "write word one 0 18446744073709551617", "write word one 0 9223372036854775808", "write word one 0 04294967295",
		"write byte four 0 1 2 3", "write byte four 0 1 2 3 ", "write byte four 0 1 2  3 4", "write byte four 0 1 2 3 4 5", "write byte four 0 1 lock 2 3 4", "write byte four 0 1 2 3 lock",
		"write byte eight 0 1 2 3 4 5 6 7", "write byte eight 0 1 2 3 4 5 6 7 8 9", "write byte eight 0 lock 1 2 3 4 5 6 7 8 9", "write byte eight 0 lock 1 2 3 4 5 6 7 8 ", "write byte eight 0 lock 1 2 3 4 5 6 7 8 9 10",
		"read byte one 0 read byte one 0", "read byte one 0\nread byte one 0", "write word one 8 lock 77\x80",
	} {
		checkNoReq(t, s)
	}
}

// Promise 3: no other strings are accepted. These texts differ in one byte
// from the text of a request.
func TestReadReqOfTextsWithAnotherByte(t *testing.T) {
	bytes := "0129 -+_lockwrite\n\t\x00\x80"
	for _, r := range validReqs() {
		s := wantReqText(r)
		for i := range len(s) + 1 {
			checkRead(t, s[:i])
			checkRead(t, s[i:])
			for j := range len(bytes) {
				checkRead(t, s[:i]+bytes[j:j+1]+s[i:])
				if i < len(s) {
					checkRead(t, s[:i]+bytes[j:j+1]+s[i+1:])
				}
			}
			if i < len(s) {
				checkRead(t, s[:i]+s[i+1:])
			}
		}
	}
}

// The same for texts that differ in a word: one is left out, written twice,
// put before the previous one, or replaced.
func TestReadReqOfTextsWithAnotherWord(t *testing.T) {
	other := []string{"", "lock", "0", "1", "00", "255", "256", "65536", "4294967295", "4294967296", "read", "write", "byte", "half", "word", "one", "four", "wrap", "eight"}
	for _, r := range validReqs() {
		words := strings.Split(wantReqText(r), " ")
		for i := range words {
			checkRead(t, strings.Join(slices.Delete(slices.Clone(words), i, i+1), " "))
			checkRead(t, strings.Join(slices.Insert(slices.Clone(words), i, words[i]), " "))
			if i > 0 {
				swapped := slices.Clone(words)
				swapped[i-1], swapped[i] = words[i], words[i-1]
				checkRead(t, strings.Join(swapped, " "))
			}
			for _, w := range other {
				checkRead(t, strings.Join(slices.Insert(slices.Clone(words), i+1, w), " "))
				replaced := slices.Clone(words)
				replaced[i] = w
				checkRead(t, strings.Join(replaced, " "))
			}
		}
	}
}

func TestReadReqOfEveryFewWords(t *testing.T) {
	words := []string{"read", "write", "byte", "word", "one", "four", "0", "64", "lock", ""}
	var grow func(s string, left int)
	grow = func(s string, left int) {
		checkRead(t, s)
		if left == 0 {
			return
		}
		for _, w := range words {
			grow(s+" "+w, left-1)
		}
	}
	for _, w := range words {
		grow(w, 4)
	}
}

func TestReadReqOfShortTexts(t *testing.T) {
	forEachText("r 0l\x00", 6, func(s string) { checkNoReq(t, s) })
	for i := range 256 {
		checkNoReq(t, string([]byte{byte(i)}))
		checkRead(t, "write byte one 0 "+string([]byte{byte(i)}))
	}
}

func TestReadReqOfLongTexts(t *testing.T) {
	for _, s := range []string{
		strings.Repeat(" ", 100000), strings.Repeat("1 ", 100000), "write word eight 0" + strings.Repeat(" 1", 100000), "read word one 0" + strings.Repeat(" lock", 1000),
		"read word one " + strings.Repeat("0", 100000), "read word one " + strings.Repeat("9", 100000), "write word one 0 " + strings.Repeat("0", 100000) + "1", strings.Repeat("read", 100000) + " word one 0",
	} {
		checkNoReq(t, s)
	}
}

func TestReqFunctionsKeepTheirArguments(t *testing.T) {
	whole := []int{9, 1, 2, 3, 4, 9, 9}
	a := impl.Req{Write: true, Burst: impl.BuFour, Data: whole[1:5]}
	b := a
	b.Data = slices.Clone(a.Data)
	if !impl.ReqOk(a) || impl.ReqText(a) != "write byte four 0 1 2 3 4" || !impl.SameReq(a, b) {
		t.Errorf("ReqText(%v) = %q", a, impl.ReqText(a))
	}
	if !slices.Equal(whole, []int{9, 1, 2, 3, 4, 9, 9}) {
		t.Error("the numbers or the capacity after them have changed")
	}
}

func TestReadReqIsNewMemory(t *testing.T) {
	s := "write word four 8 lock 1 2 3 4"
	a, _ := impl.ReadReq(s)
	b, _ := impl.ReadReq(s)
	clear(a.Data[:cap(a.Data)])
	c, _ := impl.ReadReq(s)
	if want := []int{1, 2, 3, 4}; !slices.Equal(b.Data, want) || !slices.Equal(c.Data, want) {
		t.Error("two results share memory")
	}
}
