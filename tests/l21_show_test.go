package tests

import (
	"math"
	"regexp"
	"slices"
	"strconv"
	"strings"
	"testing"

	"loop.example/g01623/impl"
)

// Of chapter 21 only ReadScript has landed, since the given test of chapter 7
// reads its script with it.

// scriptGrammar describes how scripts are written, up to their requests.
var scriptGrammar = regexp.MustCompile(`^(?:waits((?: (?:0|-?[1-9][0-9]*))+)\n)?(?:says((?: (?:0|-?[1-9][0-9]*))+)\n)?((?:post (?:0|-?[1-9][0-9]*) (?:0|-?[1-9][0-9]*) [^\n]*\n)*)$`)

// wantScript reads a script with the grammar, and its requests with the one
// that the tests of requests use.
func wantScript(s string) (impl.Script, bool) {
	parts := scriptGrammar.FindStringSubmatch(s)
	if parts == nil {
		return impl.Script{}, false
	}
	good := true
	num := func(word string) int {
		n, err := strconv.ParseInt(word, 10, 64)
		good = good && err == nil && n > -1e18 && n < 1e18
		return int(n)
	}
	var x impl.Script
	for _, word := range strings.Fields(parts[1]) {
		x.Waits = append(x.Waits, num(word))
	}
	for _, word := range strings.Fields(parts[2]) {
		x.Says = append(x.Says, num(word))
	}
	for line := range strings.Lines(parts[3]) {
		words := strings.SplitN(strings.TrimSuffix(line, "\n"), " ", 4)
		r, ok := wantReq(words[3])
		good = good && ok
		x.Posts = append(x.Posts, impl.Post{At: num(words[1]), Who: num(words[2]), Req: r})
	}
	if !good {
		return impl.Script{}, false
	}
	return x, true
}

// wantScriptText writes a script whose requests are valid.
func wantScriptText(x impl.Script) string {
	s := ""
	for i, list := range [][]int{x.Waits, x.Says} {
		if len(list) == 0 {
			continue
		}
		s += []string{"waits", "says"}[i]
		for _, n := range list {
			s += " " + strconv.FormatInt(int64(n), 10)
		}
		s += "\n"
	}
	for _, p := range x.Posts {
		s += "post " + strconv.FormatInt(int64(p.At), 10) + " " + strconv.FormatInt(int64(p.Who), 10) + " " + wantReqText(p.Req) + "\n"
	}
	return s
}

// checkReadScript checks that s is read as the grammar says, or not at all.
func checkReadScript(t *testing.T, s string) {
	t.Helper()
	want, wantOk := wantScript(s)
	if got, ok := impl.ReadScript(s); ok != wantOk || !sameScriptFields(got, want) {
		t.Errorf("ReadScript(%.300q) = %v, %v, want %v, %v", s, got, ok, want, wantOk)
	}
}

func checkNoScript(t *testing.T, s string) {
	t.Helper()
	if got, ok := impl.ReadScript(s); ok || !sameScriptFields(got, impl.Script{}) {
		t.Errorf("ReadScript(%.300q) = %v, %v, want none", s, got, ok)
	}
}

// showScripts returns scripts with each mix of empty and other lists, whose
// numbers need not be in the range of a valid script.
func showScripts() []impl.Script {
	posts := []impl.Post{
		{At: 12, Who: 1, Req: impl.Req{Write: true, Addr: 8, Size: 2, Burst: impl.BuFour, Lock: true, Data: []int{4294967295, 0, 10, 7}}},
		{At: -5, Who: -1, Req: impl.Req{}},
		{At: 999999999999999999, Who: 99, Req: impl.Req{Addr: 62, Size: 1, Lock: true}},
	}
	var l []impl.Script
	for _, waits := range [][]int{nil, {0}, {1, -9, 30}} {
		for _, says := range [][]int{nil, {2}, {3, -999999999999999999}} {
			for n := range 4 {
				l = append(l, impl.Script{Posts: posts[:n], Waits: waits, Says: says})
			}
		}
	}
	return l
}

func TestReadScriptExamples(t *testing.T) {
	read := impl.Req{Size: 2}
	for _, c := range []struct {
		s    string
		want impl.Script
	}{
		{"", impl.Script{}},
		{"waits 0\n", impl.Script{Waits: []int{0}}},
		{"says 3\n", impl.Script{Says: []int{3}}},
		{"waits 1 9\nsays 2 3 1\npost 0 0 read word one 0\npost 4 1 read word one 0 lock\n", impl.Script{Waits: []int{1, 9}, Says: []int{2, 3, 1}, Posts: []impl.Post{{Req: read}, {At: 4, Who: 1, Req: impl.Req{Size: 2, Lock: true}}}}},
		{"post 9 3 write word one 8 lock 77\npost 2 0 read word one 0\n", impl.Script{Posts: []impl.Post{{At: 9, Who: 3, Req: impl.Req{Write: true, Addr: 8, Size: 2, Lock: true, Data: []int{77}}}, {At: 2, Req: read}}}},
		{"says -1 0\npost -2 -3 read word one 0\n", impl.Script{Says: []int{-1, 0}, Posts: []impl.Post{{At: -2, Who: -3, Req: read}}}},
	} {
		if got, ok := impl.ReadScript(c.s); !ok || !sameScriptFields(got, c.want) {
			t.Errorf("ReadScript(%q) = %v, %v, want %v", c.s, got, ok, c.want)
		}
	}
}

// Promise 3: a script can be parsed from its text.
func TestReadScriptInvertsItsFormat(t *testing.T) {
	scripts := append(showScripts(), scriptOf(20, 20, 20), scriptOf(60, 70, 80))
	for _, r := range validReqs() {
		scripts = append(scripts, impl.Script{Posts: []impl.Post{{At: 4000, Who: 3, Req: r}, {Req: r}}})
	}
	for _, x := range scripts {
		s := wantScriptText(x)
		if got, ok := impl.ReadScript(s); !ok || !sameScriptFields(got, x) {
			t.Errorf("ReadScript(%q) = %v, %v", s, got, ok)
		}
	}
}

// Promise 3 for whole configurations and scripts that are valid together.
func TestReadScriptOfValidScripts(t *testing.T) {
	for _, x := range []impl.Script{{}, scriptOf(1, 0, 0), scriptOf(20, 20, 20), scriptOf(7, 0, 3)} {
		got, ok := impl.ReadScript(wantScriptText(x))
		if !ok || !impl.ScriptOk(scriptConf(2, 1), got) {
			t.Errorf("ReadScript(%q) = %v, %v", wantScriptText(x), got, ok)
		}
	}
}

func TestReadScriptExamplesOfOtherTexts(t *testing.T) {
	for _, s := range []string{
		"\n", " ", " \n", "\n\n", "waits", "waits\n", "waits \n", "waits 1", "waits 1 \n", "waits  1\n", " waits 1\n", "waits 1  2\n", "waits 1\n\n", "\nwaits 1\n", "waits 1\r\n", "waits\t1\n", "waits 1\x00\n", "wait 1\n", "Waits 1\n", "waits1\n", "waitss 1\n",
		"says", "says\n", "says \n", "says 2", "says 2 \n", "says  2\n", " says 2\n", "say 2\n", "SAYS 2\n", "says 2\n\n", "says retry\n",
		"waits 01\n", "waits +1\n", "waits -0\n", "waits --1\n", "waits -\n", "waits 00\n", "waits 1_0\n", "waits 0x1\n", "waits 1.\n", "waits x\n", "waits 1 x\n", "waits x 1\n", "waits 1,2\n", "waits \u0661\n",
		"waits 1\nwaits 1\n", "says 1\nsays 1\n", "says 1\nwaits 1\n", "waits 1\nsays 2\nwaits 1\n", "waits 1\nsays 2\nsays 2\n", "post 0 0 read word one 0\nwaits 1\n", "post 0 0 read word one 0\nsays 1\n", "waits 1 says 2\n", "waits 1says 2\n",
		"post", "post\n", "post 0\n", "post 0 0\n", "post 0 0 \n", "post 0 read word one 0\n", "post 0 0 read word one 0", "post 0 0 read word one 0 \n", "post 0 0  read word one 0\n", "post 0  0 read word one 0\n", "post  0 0 read word one 0\n", " post 0 0 read word one 0\n", "posts 0 0 read word one 0\n", "Post 0 0 read word one 0\n", "read word one 0\n", "0 0 read word one 0\n", " 0 0 read word one 0\n",
		"post 00 0 read word one 0\n", "post 0 00 read word one 0\n", "post +1 0 read word one 0\n", "post 0 -0 read word one 0\n", "post x 0 read word one 0\n", "post 0 x read word one 0\n", "post 0 0 0 read word one 0\n", "post 0 0 read word one 2\n", "post 0 0 read word one 00\n", "post 0 0 read word one 0 5\n", "post 0 0 write byte one 3 256\n", "post 0 0 write word four 8 1 2 3\n", "post 0 0 x\n",
		"post 0 0 read word one 0\n\n", "post 0 0 read word one 0\n\npost 0 0 read word one 0\n", "post 0 0 read word one 0\npost 0 0 read word one 0", "post 0 0 read word one 0\nx\n", "x\npost 0 0 read word one 0\n", "post 0 0 read word one 2\npost 0 0 read word one 0\n", "post 0 0 read word one 0 post 0 0 read word one 0\n", "waits 1\nsays 2\npost 0 0 read word one 0\n\x80",
		"waits x\nsays 2\npost 0 0 read word one 0\n", "waits 1\nsays x\npost 0 0 read word one 0\n", "waits 1\nsays 2\npost 0 0 read word one x\n",
	} {
		checkNoScript(t, s)
	}
}

// A number may have 18 digits, however large an int may be, and a sign.
func TestNumbersInScriptsHaveAtMost18Digits(t *testing.T) {
	forms := []string{"waits #\n", "waits 1 # 2\n", "says #\n", "says 3 #\n", "post # 0 read word one 0\n", "post 0 # read word one 0\n"}
	for _, form := range forms {
		for _, word := range []string{"99999999", "999999999", "1000000000", "99999999999999999", "100000000000000000", "999999999999999999", "-999999999999999999", "-100000000000000000"} {
			s := strings.ReplaceAll(form, "#", word)
			if _, ok := impl.ReadScript(s); !ok {
				t.Errorf("ReadScript(%q) is false", s)
			}
			checkReadScript(t, s)
		}
		for _, word := range []string{"1000000000000000000", "-1000000000000000000", "9223372036854775807", "-9223372036854775808", "9223372036854775808", "18446744073709551616", "18446744073709551617", "099999999999999999", "-09999999999999999", "0000000000000000000", "1" + strings.Repeat("0", 100)} {
			checkNoScript(t, strings.ReplaceAll(form, "#", word))
		}
		for _, n := range append(sampleNumbers(), math.MinInt, math.MaxInt) {
			checkReadScript(t, strings.ReplaceAll(form, "#", strconv.Itoa(n)))
		}
	}
}

// Promise 3: no other strings are accepted. These texts differ in one byte
// from the text of a script.
func TestReadScriptOfTextsWithAnotherByte(t *testing.T) {
	bytes := "0129 -+xpswrlo\n\t\x00\x80"
	for _, x := range showScripts() {
		s := wantScriptText(x)
		for i := range len(s) + 1 {
			checkReadScript(t, s[:i])
			checkReadScript(t, s[i:])
			for j := range len(bytes) {
				checkReadScript(t, s[:i]+bytes[j:j+1]+s[i:])
				if i < len(s) {
					checkReadScript(t, s[:i]+bytes[j:j+1]+s[i+1:])
				}
			}
			if i < len(s) {
				checkReadScript(t, s[:i]+s[i+1:])
			}
		}
	}
}

// The same for texts that differ in a word or in a line: one is left out,
// written twice, put before the previous one, or replaced.
func TestReadScriptOfTextsWithAnotherPart(t *testing.T) {
	other := map[string][]string{
		" ":  {"", "0", "7", "-1", "00", "waits", "says", "post", "read", "lock", "x"},
		"\n": {"", "waits 1", "says 1", "waits", "says", "post 1 1 read byte one 0", "post 1 1", "read byte one 0", "waits 1 ", "x"},
	}
	for _, x := range showScripts() {
		for separator, parts := range other {
			l := strings.Split(wantScriptText(x), separator)
			for i := range l {
				checkReadScript(t, strings.Join(slices.Delete(slices.Clone(l), i, i+1), separator))
				checkReadScript(t, strings.Join(slices.Insert(slices.Clone(l), i, l[i]), separator))
				if i > 0 {
					swapped := slices.Clone(l)
					swapped[i-1], swapped[i] = l[i], l[i-1]
					checkReadScript(t, strings.Join(swapped, separator))
				}
				for _, part := range parts {
					checkReadScript(t, strings.Join(slices.Insert(slices.Clone(l), i, part), separator))
					replaced := slices.Clone(l)
					replaced[i] = part
					checkReadScript(t, strings.Join(replaced, separator))
				}
			}
		}
	}
}

func TestReadScriptOfEveryFewLines(t *testing.T) {
	lines := []string{"waits 1\n", "says 2 3\n", "post 0 0 read word one 0\n", "post 1 1 write byte one 1 2\n", "post 1 1\n", "\n", "x"}
	var grow func(s string, left int)
	grow = func(s string, left int) {
		checkReadScript(t, s)
		if left == 0 {
			return
		}
		for _, line := range lines {
			grow(s+line, left-1)
		}
	}
	grow("", 5)
}

func TestReadScriptOfShortTexts(t *testing.T) {
	forEachText("0 -\n\x00", 6, func(s string) {
		checkReadScript(t, s)
		checkReadScript(t, "waits "+s)
		checkReadScript(t, "waits 0\nsays"+s)
		checkReadScript(t, "post "+s+" 0 read byte one 0\n")
	})
}

func TestReadScriptOfLongTexts(t *testing.T) {
	for _, s := range []string{strings.Repeat("\n", 100000), strings.Repeat(" ", 100000), strings.Repeat("waits 1\n", 1000), strings.Repeat("post ", 100000), "waits " + strings.Repeat("9", 100000) + "\n", "waits" + strings.Repeat(" 1", 100000), "post 0 0 " + strings.Repeat("read ", 100000) + "\n"} {
		checkNoScript(t, s)
	}
	s := "waits" + strings.Repeat(" 1", 10000) + "\n" + strings.Repeat("post 0 0 read byte one 0\n", 10000)
	if got, ok := impl.ReadScript(s); !ok || len(got.Waits) != 10000 || len(got.Posts) != 10000 {
		t.Errorf("a long script is read as %d waits and %d posts", len(got.Waits), len(got.Posts))
	}
}

func TestReadScriptIsNewMemory(t *testing.T) {
	s := "waits 1 2\nsays 1 2\npost 0 0 write byte one 0 7\npost 0 0 write byte one 0 7\n"
	a, _ := impl.ReadScript(s)
	b, _ := impl.ReadScript(s)
	clear(a.Waits[:cap(a.Waits)])
	clear(a.Posts[0].Req.Data[:cap(a.Posts[0].Req.Data)])
	if a.Says[0] != 1 || a.Says[1] != 2 || a.Posts[1].Req.Data[0] != 7 {
		t.Error("two lists of one result share memory")
	}
	clear(a.Posts[:cap(a.Posts)])
	if wantScriptText(b) != s {
		t.Error("two results share memory")
	}
}
