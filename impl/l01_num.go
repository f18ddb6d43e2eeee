package impl

import (
	"strconv"
	"strings"
)

const MaxVar = 562949953421311

const maxWidth = 7
const maxVarBytes = 7
const maxDecDigits = 9
const hexDigits = "0123456789abcdef"

// Fixed returns n as width bytes, most significant byte first.
func Fixed(n int, width int) string {
	if !widthOk(width) || n < 0 || n>>(8*width) != 0 {
		return ""
	}
	var b strings.Builder
	for i := width - 1; i >= 0; i-- {
		b.WriteByte(byte(n >> (8 * i)))
	}
	return b.String()
}

// ReadFixed returns the number in the first width bytes of s.
func ReadFixed(s string, width int) (int, bool) {
	if !widthOk(width) || len(s) < width {
		return 0, false
	}
	n := 0
	for i := range width {
		n = n<<8 | int(s[i])
	}
	return n, true
}

func widthOk(width int) bool {
	return width >= 1 && width <= maxWidth
}

// Var returns n as a varint, or the empty string if n is out of range.
func Var(n int) string {
	if n < 0 || n > MaxVar {
		return ""
	}
	var b strings.Builder
	for n >= 128 {
		b.WriteByte(byte(n%128 + 128))
		n /= 128
	}
	b.WriteByte(byte(n))
	return b.String()
}

// ReadVar returns the number whose varint is a prefix of s, and the length of
// that prefix.
func ReadVar(s string) (int, int) {
	n := 0
	for i := range min(len(s), maxVarBytes) {
		n |= int(s[i]&127) << (7 * i)
		if s[i] >= 128 {
			continue
		}
		// A needlessly long varint decodes to a number whose own one is shorter.
		if Var(n) != s[:i+1] {
			return 0, 0
		}
		return n, i + 1
	}
	return 0, 0
}

// Hex returns two lowercase hexadecimal digits for each byte.
func Hex(s string) string {
	var b strings.Builder
	b.Grow(2 * len(s))
	for i := range len(s) {
		b.WriteByte(hexDigits[s[i]>>4])
		b.WriteByte(hexDigits[s[i]&15])
	}
	return b.String()
}

// Unhex returns the string for which Hex returns s.
func Unhex(s string) (string, bool) {
	if len(s)%2 != 0 {
		return "", false
	}
	var b strings.Builder
	b.Grow(len(s) / 2)
	for i := 0; i < len(s); i += 2 {
		high := strings.IndexByte(hexDigits, s[i])
		low := strings.IndexByte(hexDigits, s[i+1])
		if high < 0 || low < 0 {
			return "", false
		}
		b.WriteByte(byte(high<<4 | low))
	}
	return b.String(), true
}

// Dec returns n in decimal, with a leading - if it is negative.
func Dec(n int) string {
	return strconv.Itoa(n)
}

// ReadDec returns the number that Dec formats as s, if it has at most nine
// digits.
func ReadDec(s string) (int, bool) {
	return readDecimal(s, maxDecDigits)
}

// readDecimal returns the number that Dec formats as s, if it has at most so
// many digits.
func readDecimal(s string, maxDigits int) (int, bool) {
	if len(strings.TrimPrefix(s, "-")) > maxDigits {
		return 0, false
	}
	n, err := strconv.Atoi(s)
	// Atoi also accepts leading zeros, a plus sign and -0, which Dec never writes.
	if err != nil || Dec(n) != s {
		return 0, false
	}
	return n, true
}
