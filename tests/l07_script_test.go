package tests

import (
	"math"
	"slices"
	"testing"

	"loop.example/g01623/impl"
)

// scriptConf returns a valid configuration with so many masters.
func scriptConf(masters int, maxWait int) impl.Conf {
	c := impl.Conf{Quantum: 1, MaxWait: maxWait, MaxRetry: 1, MaxSplit: 3, LockMost: 5}
	for range masters {
		c.Masters = append(c.Masters, impl.MConf{Weight: 1})
	}
	return c
}

// postsOf returns posts of valid requests at these cycles, by the masters 0
// and 1 in turn; all their data are different.
func postsOf(cycles ...int) []impl.Post {
	var l []impl.Post
	for i, at := range cycles {
		p := impl.Post{At: at, Who: i % 2, Req: impl.Req{Addr: 4 * i, Size: 2, Lock: i%3 == 0}}
		if i%4 != 3 {
			p.Req.Write = true
			p.Req.Data = []int{1000 + i}
		}
		l = append(l, p)
	}
	return l
}

// scriptOf returns a valid script whose lists have these lengths.
func scriptOf(posts, waits, says int) impl.Script {
	var s impl.Script
	for i := range posts {
		s.Posts = append(s.Posts, postsOf(make([]int, i+1)...)[i])
		s.Posts[i].At = i / 2 * 7
	}
	for i := range waits {
		s.Waits = append(s.Waits, i%5)
	}
	for i := range says {
		s.Says = append(s.Says, i%4)
	}
	return s
}

func clonePosts(l []impl.Post) []impl.Post {
	l = slices.Clone(l)
	for i := range l {
		l[i].Req.Data = slices.Clone(l[i].Req.Data)
	}
	return l
}

func cloneScript(s impl.Script) impl.Script {
	return impl.Script{Posts: clonePosts(s.Posts), Waits: slices.Clone(s.Waits), Says: slices.Clone(s.Says)}
}

// samePosts compares lists of posts without the program.
func samePosts(a, b []impl.Post) bool {
	return slices.EqualFunc(a, b, func(x, y impl.Post) bool {
		return x.At == y.At && x.Who == y.Who && sameFields(x.Req, y.Req)
	})
}

func sameScriptFields(a, b impl.Script) bool {
	return samePosts(a.Posts, b.Posts) && slices.Equal(a.Waits, b.Waits) && slices.Equal(a.Says, b.Says)
}

func checkScript(t *testing.T, c impl.Conf, s impl.Script, want bool) {
	t.Helper()
	if got := impl.ScriptOk(c, s); got != want {
		t.Errorf("ScriptOk(%v, %v) = %v", c, s, got)
	}
}

// oddLists returns lists to choose from, with numbers on both sides of all
// limits, also longer ones than a valid script has.
func oddLists() [][]int {
	l := [][]int{nil, {}, {0}, {2}, {3}, {-1}, {9}, {math.MaxInt}, {math.MinInt}, {1, 9}, {2, 3, 1}, {3, 2, 1, 0}, {0, -1, 4, 1, 2, 3, 5, -2, -3}}
	for _, size := range []int{19, 20, 21, 64} {
		list := make([]int, size)
		for i := range list {
			list[i] = (i*7+size)%9 - 2
		}
		l = append(l, list)
	}
	return append(l, sampleNumbers())
}

// wantChoice counts through a list, from its beginning after its end.
func wantChoice(list []int, k int) int {
	if k < 0 || len(list) == 0 {
		return 0
	}
	if k < 1000 {
		i := 0
		for range k {
			i++
			if i == len(list) {
				i = 0
			}
		}
		return list[i]
	}
	return list[uint64(k)%uint64(len(list))]
}

func choiceNumbers() []int {
	l := sampleNumbers()
	for k := range 130 {
		l = append(l, k, -k)
	}
	return l
}

func TestScriptLimits(t *testing.T) {
	if impl.MaxPosts != 20 || impl.MaxList != 20 || impl.MaxCycles != 4000 {
		t.Error(impl.MaxPosts, impl.MaxList, impl.MaxCycles)
	}
}

func TestScriptOkExamples(t *testing.T) {
	read, write := impl.Req{Size: 2}, impl.Req{Write: true, Addr: 8, Size: 2, Burst: impl.BuFour, Data: []int{1, 2, 3, 4}}
	for _, c := range []struct {
		posts []impl.Post
		want  bool
	}{
		{nil, true},
		{[]impl.Post{{At: 0, Who: 0, Req: read}, {At: 4, Who: 1, Req: write}}, true},
		{[]impl.Post{{At: 4, Who: 1, Req: write}, {At: 4, Who: 1, Req: write}, {At: 4, Who: 0, Req: read}}, true},
		{[]impl.Post{{At: 5, Who: 0, Req: read}, {At: 4, Who: 1, Req: write}}, false},
		{[]impl.Post{{At: 0, Who: 2, Req: read}}, false},
		{[]impl.Post{{At: 0, Who: 0, Req: impl.Req{Size: 2, Addr: 1}}}, false},
		{[]impl.Post{{}}, true},
		{[]impl.Post{{At: 4000}}, true},
		{[]impl.Post{{At: 4001}}, false},
	} {
		checkScript(t, scriptConf(2, 1), impl.Script{Posts: c.posts, Waits: []int{1, 9}, Says: []int{2, 3, 1}}, c.want)
	}
}

// The edge case of the stage: each of the three lists may be empty.
func TestEmptyLists(t *testing.T) {
	for masters := range 5 {
		c := scriptConf(masters, 2)
		for _, posts := range []int{0, 1, 20} {
			for _, waits := range []int{0, 1, 20} {
				for _, says := range []int{0, 1, 20} {
					checkScript(t, c, scriptOf(posts, waits, says), masters >= 2 || masters == 1 && posts < 2)
				}
			}
		}
		checkScript(t, c, impl.Script{Posts: []impl.Post{}, Waits: []int{}, Says: []int{}}, masters > 0)
	}
	for _, s := range []impl.Script{{}, {Posts: []impl.Post{}, Waits: []int{}, Says: []int{}}, {Posts: postsOf(0, 1, 1)}} {
		for _, k := range choiceNumbers() {
			if got := impl.WaitAt(scriptConf(1, 3), s, k); got != 0 {
				t.Errorf("WaitAt(%v, %d) = %d", s, k, got)
			}
			if got := impl.SaidAt(s, k); got != impl.ReOkay {
				t.Errorf("SaidAt(%v, %d) = %d", s, k, got)
			}
		}
	}
	for _, s := range []impl.Script{{}, {Posts: []impl.Post{}}, {Waits: []int{1}, Says: []int{2}}} {
		for _, at := range choiceNumbers() {
			if got := impl.PostsAt(s, at); len(got) != 0 {
				t.Errorf("PostsAt(%v, %d) = %v", s, at, got)
			}
		}
	}
	// An empty list of one kind does not change the choices from another one.
	if got := impl.WaitAt(scriptConf(1, 3), impl.Script{Waits: []int{2}}, 5); got != 2 {
		t.Error("WaitAt without Says:", got)
	}
	if got := impl.SaidAt(impl.Script{Says: []int{3}}, 5); got != impl.ReSplit {
		t.Error("SaidAt without Waits:", got)
	}
}

func TestScriptsOfTooManyElements(t *testing.T) {
	c := scriptConf(2, 1)
	for n := range 50 {
		checkScript(t, c, scriptOf(n, 0, 0), n <= 20)
		checkScript(t, c, scriptOf(0, n, 0), n <= 20)
		checkScript(t, c, scriptOf(0, 0, n), n <= 20)
		checkScript(t, c, scriptOf(20, 20, n), n <= 20)
		checkScript(t, c, scriptOf(20, n, 20), n <= 20)
		checkScript(t, c, scriptOf(n, 20, 20), n <= 20)
	}
	checkScript(t, c, impl.Script{Posts: make([]impl.Post, 100000)}, false)
	checkScript(t, c, impl.Script{Waits: make([]int, 100000)}, false)
	checkScript(t, c, impl.Script{Says: make([]int, 100000)}, false)
}

func TestCyclesOfPosts(t *testing.T) {
	c := scriptConf(2, 1)
	numbers := append(sampleNumbers(), 3999, 4000, 4001, 3998)
	for _, at := range numbers {
		checkScript(t, c, impl.Script{Posts: postsOf(at)}, at >= 0 && at <= 4000)
		checkScript(t, c, impl.Script{Posts: postsOf(at, at)}, at >= 0 && at <= 4000)
		checkScript(t, c, impl.Script{Posts: postsOf(0, at, 4000)}, at >= 0 && at <= 4000)
		checkScript(t, c, impl.Script{Posts: postsOf(at, 4000)}, at >= 0 && at <= 4000)
		checkScript(t, c, impl.Script{Posts: postsOf(0, 0, at)}, at >= 0 && at <= 4000)
	}
	for i := range 9 {
		for j := range 9 {
			for k := range 9 {
				checkScript(t, c, impl.Script{Posts: postsOf(i, j, k)}, i <= j && j <= k)
			}
		}
	}
}

// One post that is earlier than the one before it is enough, wherever it is.
func TestPostsThatAreOutOfOrder(t *testing.T) {
	c := scriptConf(2, 1)
	for i := 1; i < 20; i++ {
		s := scriptOf(20, 3, 3)
		for j := range s.Posts {
			s.Posts[j].At = 100 + 10*j
		}
		s.Posts[i].At = s.Posts[i-1].At
		checkScript(t, c, s, true)
		s.Posts[i].At--
		checkScript(t, c, s, false)
		s.Posts[i].At = 0
		checkScript(t, c, s, false)
	}
}

func TestPostsNeedAMaster(t *testing.T) {
	for masters := 1; masters <= 4; masters++ {
		c := scriptConf(masters, 1)
		for _, who := range append(sampleNumbers(), 3, 4, 5) {
			ok := who >= 0 && who < masters
			checkScript(t, c, impl.Script{Posts: []impl.Post{{Who: who}}}, ok)
			for i := range 20 {
				s := impl.Script{Posts: make([]impl.Post, 20)}
				s.Posts[i].Who = who
				checkScript(t, c, s, ok)
			}
		}
	}
}

func TestPostsNeedAValidRequest(t *testing.T) {
	c := scriptConf(2, 1)
	for _, r := range validReqs() {
		checkScript(t, c, impl.Script{Posts: []impl.Post{{At: 3, Who: 1, Req: r}}}, true)
		r.Data = append(slices.Clone(r.Data), 0)
		checkScript(t, c, impl.Script{Posts: []impl.Post{{At: 3, Who: 1, Req: r}}}, false)
	}
	bad := []impl.Req{{Addr: -1}, {Addr: 512}, {Addr: 2, Size: 2}, {Size: 3}, {Size: -1}, {Burst: 4}, {Burst: -1}, {Addr: 60, Size: 2, Burst: impl.BuFour}, {Data: []int{0}}, {Write: true}, {Write: true, Data: []int{256}}, {Write: true, Data: []int{-1}}, {Write: true, Data: []int{0, 0}}}
	for _, r := range bad {
		for i := range 20 {
			s := scriptOf(20, 1, 1)
			checkScript(t, c, s, true)
			s.Posts[i].Req = r
			checkScript(t, c, s, false)
		}
	}
}

func TestScriptsNeedAValidConf(t *testing.T) {
	good := scriptConf(2, 1)
	scripts := []impl.Script{{}, scriptOf(3, 2, 2), scriptOf(20, 20, 20)}
	for _, s := range scripts {
		checkScript(t, good, s, true)
		checkScript(t, impl.Conf{}, s, false)
		for i, limits := range [][2]int{{1, 4}, {0, 3}, {0, 3}, {1, 12}, {1, 40}, {1, 4}, {0, 0}, {0, 0}} {
			for _, n := range append(sampleNumbers(), 3, 4, 5, 12, 13, 40, 41) {
				c := good
				c.Masters = slices.Clone(good.Masters)
				*numberAt(&c, i) = n
				checkScript(t, c, s, n >= limits[0] && n <= limits[1])
			}
		}
	}
	for _, c := range validConfs() {
		s := impl.Script{Posts: []impl.Post{{At: 4000, Who: len(c.Masters) - 1}}}
		checkScript(t, c, s, true)
		s.Posts[0].Who++
		checkScript(t, c, s, false)
	}
	// With too many masters there is no master that a post may belong to.
	checkScript(t, scriptConf(5, 1), impl.Script{Posts: make([]impl.Post, 1)}, false)
}

// The slaves' choices may be any numbers; WaitAt and SaidAt limit them.
func TestScriptsOfAnyChoices(t *testing.T) {
	c := scriptConf(1, 0)
	for _, n := range append(sampleNumbers(), 3, 4) {
		checkScript(t, c, impl.Script{Waits: []int{n}}, true)
		checkScript(t, c, impl.Script{Says: []int{n}}, true)
		checkScript(t, c, impl.Script{Waits: slices.Repeat([]int{n}, 20), Says: slices.Repeat([]int{n}, 20)}, true)
	}
}

func TestChoiceExamples(t *testing.T) {
	c := scriptConf(2, 2)
	s := impl.Script{Waits: []int{1, 9, -3, 2}, Says: []int{2, 3, 1, 0, 4}}
	for k, want := range []int{1, 2, 0, 2, 1, 2, 0, 2, 1} {
		if got := impl.WaitAt(c, s, k); got != want {
			t.Errorf("WaitAt(%d) = %d, want %d", k, got, want)
		}
	}
	for k, want := range []int{impl.ReRetry, impl.ReSplit, impl.ReOkay, impl.ReOkay, impl.ReOkay, impl.ReRetry, impl.ReSplit, impl.ReOkay} {
		if got := impl.SaidAt(s, k); got != want {
			t.Errorf("SaidAt(%d) = %d, want %d", k, got, want)
		}
	}
	for _, k := range []int{-1, -2, -4, -5, -8, math.MinInt} {
		if wait, said := impl.WaitAt(c, s, k), impl.SaidAt(s, k); wait != 0 || said != impl.ReOkay {
			t.Errorf("WaitAt(%d) = %d, SaidAt = %d", k, wait, said)
		}
	}
}

func TestWaitAtEverywhere(t *testing.T) {
	for _, list := range oddLists() {
		s := impl.Script{Waits: list, Says: []int{1, 2, 3}}
		for _, k := range choiceNumbers() {
			for most := range 4 {
				want := wantChoice(list, k)
				if want < 0 {
					want = 0
				}
				if want > most {
					want = most
				}
				if got := impl.WaitAt(scriptConf(1, most), s, k); got != want {
					t.Errorf("WaitAt(MaxWait %d, %v, %d) = %d, want %d", most, list, k, got, want)
				}
			}
		}
	}
}

// Only MaxWait of the configuration counts, whether or not the rest is valid.
// There are never fewer than no wait states.
func TestWaitAtOfInvalidConfs(t *testing.T) {
	s := impl.Script{Waits: []int{5, -5, 2, 100}}
	for _, c := range []struct {
		most int
		want []int
	}{
		{0, []int{0, 0, 0, 0}}, {3, []int{3, 0, 2, 3}}, {4, []int{4, 0, 2, 4}}, {50, []int{5, 0, 2, 50}}, {math.MaxInt, []int{5, 0, 2, 100}},
		{-1, []int{0, 0, 0, 0}}, {-9, []int{0, 0, 0, 0}}, {math.MinInt, []int{0, 0, 0, 0}},
	} {
		for _, conf := range []impl.Conf{{MaxWait: c.most}, scriptConf(3, c.most), scriptConf(9, c.most)} {
			for k, want := range c.want {
				if got := impl.WaitAt(conf, s, k); got != want {
					t.Errorf("WaitAt(%v, %d) = %d, want %d", conf, k, got, want)
				}
			}
			if got := impl.WaitAt(conf, s, -1); got != 0 {
				t.Errorf("WaitAt(%v, -1) = %d", conf, got)
			}
			if got := impl.WaitAt(conf, impl.Script{}, 0); got != 0 {
				t.Errorf("WaitAt(%v) = %d without Waits", conf, got)
			}
		}
	}
}

func TestSaidAtEverywhere(t *testing.T) {
	for _, list := range oddLists() {
		s := impl.Script{Waits: []int{2, 3}, Says: list}
		for _, k := range choiceNumbers() {
			want := map[int]int{impl.ReRetry: 2, impl.ReSplit: 3}[wantChoice(list, k)]
			if got := impl.SaidAt(s, k); got != want {
				t.Errorf("SaidAt(%v, %d) = %d, want %d", list, k, got, want)
			}
		}
	}
	for _, n := range append(sampleNumbers(), 3, 4, 5, 1<<32+2, 1<<32+3) {
		if got := impl.SaidAt(impl.Script{Says: []int{n}}, 0); got != 0 && got != n || (got == n) != (n == 0 || n == 2 || n == 3) {
			t.Errorf("SaidAt of %d = %d", n, got)
		}
	}
}

func TestPostsAtFindsThemInOrder(t *testing.T) {
	posts := postsOf(0, 0, 3, 3, 3, 4, 9, 4000, 4000)
	s := impl.Script{Posts: posts, Waits: []int{3}, Says: []int{3}}
	for at := -10; at <= 4010; at++ {
		var want []impl.Post
		switch at {
		case 0:
			want = posts[:2]
		case 3:
			want = posts[2:5]
		case 4:
			want = posts[5:6]
		case 9:
			want = posts[6:7]
		case 4000:
			want = posts[7:]
		}
		if got := impl.PostsAt(s, at); !samePosts(got, want) {
			t.Errorf("PostsAt(%d) = %v, want %v", at, got, want)
		}
	}
	all := impl.Script{Posts: postsOf(make([]int, 20)...)}
	if got := impl.PostsAt(all, 0); !samePosts(got, all.Posts) {
		t.Errorf("PostsAt(0) = %v", got)
	}
}

// Whether a script is valid does not matter: the posts may be in any order, at
// any cycle, too many, and with any request.
func TestPostsAtOfInvalidScripts(t *testing.T) {
	posts := postsOf(5, 2, 5, -1, 2, 5, 4001, math.MinInt, math.MaxInt, -1)
	posts[2].Req = impl.Req{Addr: -7, Size: 9, Burst: -1, Data: []int{-1, 2}}
	posts[4].Who = -3
	for at, places := range map[int][]int{5: {0, 2, 5}, 2: {1, 4}, -1: {3, 9}, 4001: {6}, math.MinInt: {7}, math.MaxInt: {8}, 0: nil, 3: nil, 1<<32 + 5: nil} {
		var want []impl.Post
		for _, i := range places {
			want = append(want, posts[i])
		}
		if got := impl.PostsAt(impl.Script{Posts: posts}, at); !samePosts(got, want) {
			t.Errorf("PostsAt(%d) = %v, want %v", at, got, want)
		}
	}
	many := impl.Script{Posts: postsOf(slices.Repeat([]int{1, 2}, 300)...)}
	if got := impl.PostsAt(many, 2); len(got) != 300 {
		t.Errorf("PostsAt finds %d posts of 300", len(got))
	}
}

func TestPostsAtIsNewMemory(t *testing.T) {
	data := []int{1, 2, 3, 4, 9, 9}
	r := impl.Req{Write: true, Burst: impl.BuFour, Data: data[:4]}
	s := impl.Script{Posts: []impl.Post{{Req: r}, {Req: r}, {At: 1, Req: r}}}
	kept := cloneScript(s)
	got := impl.PostsAt(s, 0)
	clear(got[0].Req.Data[:cap(got[0].Req.Data)])
	if !slices.Equal(got[1].Req.Data, []int{1, 2, 3, 4}) {
		t.Error("two requests of one result share memory")
	}
	got = append(got, impl.Post{At: 7})
	clear(got[:cap(got)])
	if !sameScriptFields(s, kept) || !slices.Equal(data, []int{1, 2, 3, 4, 9, 9}) {
		t.Errorf("the script has become %v, its data %v", s, data)
	}
	if again := impl.PostsAt(s, 0); !samePosts(again, kept.Posts[:2]) {
		t.Errorf("PostsAt(0) = %v after a change of its last result", again)
	}
}

func TestScriptFunctionsKeepTheirArguments(t *testing.T) {
	whole := scriptOf(9, 9, 9)
	kept := cloneScript(whole)
	c := scriptConf(4, 3)
	masters := slices.Clone(c.Masters)
	c.Masters = c.Masters[:2]
	s := impl.Script{Posts: whole.Posts[2:5], Waits: whole.Waits[1:4], Says: whole.Says[1:4]}
	if !impl.ScriptOk(c, s) || impl.WaitAt(c, s, 4) != 2 || impl.SaidAt(s, 4) != impl.ReRetry || len(impl.PostsAt(s, 7)) != 2 {
		t.Error(s)
	}
	if !sameScriptFields(whole, kept) || !slices.Equal(c.Masters[:4], masters) {
		t.Error("the arguments or the capacity after them have changed")
	}
}
