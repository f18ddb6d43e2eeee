package tests

import (
	"encoding/binary"
	"encoding/hex"
	"math"
	"regexp"
	"strconv"
	"strings"
	"testing"

	"loop.example/g01623/impl"
)

// forEachText calls f with every string over the alphabet of at most most bytes.
func forEachText(alphabet string, most int, f func(s string)) {
	var grow func(s string)
	grow = func(s string) {
		f(s)
		if len(s) == most {
			return
		}
		for i := range len(alphabet) {
			grow(s + alphabet[i:i+1])
		}
	}
	grow("")
}

func everyByte() string {
	var b strings.Builder
	for i := range 256 {
		b.WriteByte(byte(i))
	}
	return b.String()
}

// sampleNumbers returns numbers around every power of two, of both signs.
func sampleNumbers() []int {
	l := []int{0, math.MinInt, math.MinInt + 1, math.MaxInt}
	for i := range 62 {
		for _, d := range []int{-1, 0, 1} {
			l = append(l, 1<<i+d, -(1<<i + d))
		}
	}
	return l
}

func TestFixedIsBigEndian(t *testing.T) {
	for _, n := range sampleNumbers() {
		for width := 1; width <= 7; width++ {
			want := ""
			if n >= 0 && n < 1<<(8*width) {
				want = string(binary.BigEndian.AppendUint64(nil, uint64(n)))[8-width:]
			}
			if got := impl.Fixed(n, width); got != want {
				t.Errorf("Fixed(%d, %d) = %q, want %q", n, width, got, want)
			}
		}
	}
}

func TestFixedOneBeyondTheLimit(t *testing.T) {
	for width := 1; width <= 7; width++ {
		limit := 1 << (8 * width)
		if got := impl.Fixed(limit-1, width); got != strings.Repeat("\xff", width) {
			t.Errorf("Fixed(%d, %d) = %q", limit-1, width, got)
		}
		if got := impl.Fixed(limit, width); got != "" {
			t.Errorf("Fixed(%d, %d) = %q, want none", limit, width, got)
		}
	}
}

func TestFixedRejectsWidth(t *testing.T) {
	long := strings.Repeat("\x00", 20)
	for _, width := range []int{math.MinInt, -8, -1, 0, 8, 9, 64, math.MaxInt} {
		for _, n := range []int{0, 1, 258} {
			if got := impl.Fixed(n, width); got != "" {
				t.Errorf("Fixed(%d, %d) = %q, want none", n, width, got)
			}
		}
		for _, s := range []string{"", "a", long} {
			if n, ok := impl.ReadFixed(s, width); n != 0 || ok {
				t.Errorf("ReadFixed(%q, %d) = %d, %t", s, width, n, ok)
			}
		}
	}
}

func TestReadFixedInvertsFixed(t *testing.T) {
	for _, n := range sampleNumbers() {
		for width := 1; width <= 7; width++ {
			s := impl.Fixed(n, width)
			if s == "" {
				continue
			}
			for _, rest := range []string{"", "\x00", "\xffmore"} {
				if got, ok := impl.ReadFixed(s+rest, width); got != n || !ok {
					t.Errorf("ReadFixed(%q, %d) = %d, %t, want %d", s+rest, width, got, ok, n)
				}
			}
			if got, ok := impl.ReadFixed(s[1:], width); got != 0 || ok {
				t.Errorf("ReadFixed(%q, %d) = %d, %t for a short string", s[1:], width, got, ok)
			}
		}
	}
}

func TestFixedInvertsReadFixed(t *testing.T) {
	forEachText(everyByte(), 2, func(s string) {
		if len(s) == 0 {
			return
		}
		n, ok := impl.ReadFixed(s, len(s))
		if back := impl.Fixed(n, len(s)); !ok || back != s {
			t.Fatalf("%q is read as %d, %t, which is written as %q", s, n, ok, back)
		}
	})
}

func TestVarIsLeb128(t *testing.T) {
	for _, n := range sampleNumbers() {
		want := ""
		if n >= 0 && n <= 1<<49-1 {
			want = string(binary.AppendUvarint(nil, uint64(n)))
		}
		if got := impl.Var(n); got != want {
			t.Errorf("Var(%d) = %q, want %q", n, got, want)
		}
	}
	if impl.Var(300) != "\xac\x02" || impl.Var(0) != "\x00" {
		t.Error("the examples of the document")
	}
}

func TestVarOneBeyondTheLimit(t *testing.T) {
	if impl.MaxVar != 1<<49-1 {
		t.Error("MaxVar is", impl.MaxVar)
	}
	most := strings.Repeat("\xff", 6) + "\x7f"
	if got := impl.Var(impl.MaxVar); got != most {
		t.Errorf("Var(MaxVar) = %q", got)
	}
	if n, size := impl.ReadVar(most); n != impl.MaxVar || size != 7 {
		t.Errorf("ReadVar of MaxVar = %d, %d", n, size)
	}
	if got := impl.Var(impl.MaxVar + 1); got != "" {
		t.Errorf("Var(MaxVar+1) = %q, want none", got)
	}
	if got := impl.Var(-1); got != "" {
		t.Errorf("Var(-1) = %q, want none", got)
	}
	for _, beyond := range []uint64{impl.MaxVar + 1, impl.MaxVar + 2, math.MaxInt64, math.MaxUint64} {
		s := string(binary.AppendUvarint(nil, beyond))
		if n, size := impl.ReadVar(s); n != 0 || size != 0 {
			t.Errorf("ReadVar(%q) = %d, %d, want none", s, n, size)
		}
	}
}

func TestReadVarInvertsVar(t *testing.T) {
	for _, n := range sampleNumbers() {
		s := impl.Var(n)
		if s == "" {
			continue
		}
		for _, rest := range []string{"", "\x00", "\xff", "\x80\x01 and more"} {
			if got, size := impl.ReadVar(s + rest); got != n || size != len(s) {
				t.Errorf("ReadVar(%q) = %d, %d, want %d, %d", s+rest, got, size, n, len(s))
			}
		}
		if got, size := impl.ReadVar(s[:len(s)-1]); got != 0 || size != 0 {
			t.Errorf("ReadVar(%q) = %d, %d for a varint cut off", s[:len(s)-1], got, size)
		}
	}
}

// varintIn reads a varint by the standard library, which also accepts long and
// needlessly long ones.
func varintIn(s string) (int, int) {
	n, size := binary.Uvarint([]byte(s))
	if size <= 0 || n > 1<<49-1 || size > 1 && s[size-1] == 0 {
		return 0, 0
	}
	return int(n), size
}

func TestReadVarAcceptsNothingElse(t *testing.T) {
	check := func(s string) {
		n, size := impl.ReadVar(s)
		wantN, wantSize := varintIn(s)
		if n != wantN || size != wantSize {
			t.Fatalf("ReadVar(%q) = %d, %d, want %d, %d", s, n, size, wantN, wantSize)
		}
	}
	forEachText(everyByte(), 2, check)
	forEachText("\x00\x01\x7f\x80\xff", 8, check)
	check(strings.Repeat("\x80", 1000))
	check(strings.Repeat("\x80", 7) + "\x00")
	check(strings.Repeat("\x80", 1000) + "\x01")
}

func TestHexOfEveryByte(t *testing.T) {
	forEachText(everyByte(), 2, func(s string) {
		digits := impl.Hex(s)
		if want := hex.EncodeToString([]byte(s)); digits != want {
			t.Fatalf("Hex(%q) = %q, want %q", s, digits, want)
		}
		if back, ok := impl.Unhex(digits); back != s || !ok {
			t.Fatalf("Unhex(%q) = %q, %t, want %q", digits, back, ok, s)
		}
	})
	all := everyByte()
	if back, ok := impl.Unhex(impl.Hex(all)); back != all || !ok {
		t.Error("a long string does not come back")
	}
}

func TestUnhexAcceptsNothingElse(t *testing.T) {
	valid := regexp.MustCompile(`^([0-9a-f][0-9a-f])*$`)
	check := func(s string) {
		got, ok := impl.Unhex(s)
		if ok != valid.MatchString(s) {
			t.Fatalf("Unhex(%q) is accepted: %t", s, ok)
		}
		if ok && impl.Hex(got) != s || !ok && got != "" {
			t.Fatalf("Unhex(%q) = %q, %t", s, got, ok)
		}
	}
	forEachText(everyByte(), 2, check)
	forEachText("0af/:AFg` \xff", 5, check)
	for _, s := range []string{"61ff6", "0x61", "61 ff", "61ff\n", "61fg", "g1ff", "6F"} {
		check(s)
	}
}

func TestDecOfEveryInt(t *testing.T) {
	for _, n := range sampleNumbers() {
		if got, want := impl.Dec(n), strconv.FormatInt(int64(n), 10); got != want {
			t.Errorf("Dec(%d) = %q", n, got)
		}
	}
	for n, want := range map[int]string{0: "0", 7: "7", -7: "-7", -120: "-120", math.MinInt: "-9223372036854775808"} {
		if got := impl.Dec(n); got != want {
			t.Errorf("Dec(%d) = %q, want %q", n, got, want)
		}
	}
}

func TestReadDecOneBeyondTheLimit(t *testing.T) {
	for _, n := range []int{999999999, -999999999, 0, 1, -1, 100000000, -100000000} {
		if got, ok := impl.ReadDec(impl.Dec(n)); got != n || !ok {
			t.Errorf("ReadDec(%q) = %d, %t", impl.Dec(n), got, ok)
		}
	}
	for _, n := range []int{1000000000, -1000000000, math.MaxInt32 + 1, math.MaxInt, math.MinInt} {
		if got, ok := impl.ReadDec(impl.Dec(n)); got != 0 || ok {
			t.Errorf("ReadDec(%q) = %d, %t, want none", impl.Dec(n), got, ok)
		}
	}
}

func TestReadDecInvertsDec(t *testing.T) {
	for _, n := range sampleNumbers() {
		want, wantOk := n, true
		if n > 999999999 || n < -999999999 {
			want, wantOk = 0, false
		}
		if got, ok := impl.ReadDec(impl.Dec(n)); got != want || ok != wantOk {
			t.Errorf("ReadDec(%q) = %d, %t", impl.Dec(n), got, ok)
		}
	}
}

func TestReadDecAcceptsNothingElse(t *testing.T) {
	valid := regexp.MustCompile(`^(0|-?[1-9][0-9]{0,8})$`)
	check := func(s string) {
		got, ok := impl.ReadDec(s)
		if ok != valid.MatchString(s) {
			t.Fatalf("ReadDec(%q) is accepted: %t", s, ok)
		}
		if ok && strconv.Itoa(got) != s || !ok && got != 0 {
			t.Fatalf("ReadDec(%q) = %d, %t", s, got, ok)
		}
	}
	forEachText(everyByte(), 2, check)
	forEachText("-+0179_ ex\n", 5, check)
	forEachText("-09", 11, check)
	for _, s := range []string{"07", "+7", "-0", "0000000001", "-0000000001", "7\n", "1e3", "0x10", "1_000", "\u0663", "99999999999999999999999", "--999999999"} {
		check(s)
	}
}
