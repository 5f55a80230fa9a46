package cong

import (
	"math"
	"slices"
	"testing"

	"packetboat/api"
)

// Kinds of what befalls a window.
const (
	acked = iota
	lost
	silent
)

// act is what befalls a window: n bytes that came, or that were on their way.
type act struct{ kind, n int }

// sizes are a window's Size and Slow.
type sizes struct{ size, slow int }

// slowHalf is Slow of flight bytes, counted up byte by byte from its least.
func slowHalf(mss, flight int) int {
	half := 2 * mss
	for half < 65535 && 2*(half+1) <= flight {
		half++
	}
	return half
}

// slowQuotient is by how much Size gets more at Slow and above it: how often it
// can be taken away from mss times mss, at least once.
func slowQuotient(mss, size int) int {
	n := 0
	for rest := mss * mss; rest >= size; rest -= size {
		n++
	}
	if n == 0 {
		return 1
	}
	return n
}

// befallSlowly is what s, of that mss, is behind a.
func befallSlowly(mss int, s sizes, a act) sizes {
	switch {
	case a.kind == lost:
		half := slowHalf(mss, a.n)
		return sizes{half, half}
	case a.kind == silent:
		return sizes{mss, slowHalf(mss, a.n)}
	case a.n <= 0:
		return s
	case s.size >= s.slow:
		s.size += slowQuotient(mss, s.size)
	case a.n < mss:
		s.size += a.n
	default:
		s.size += mss
	}
	if s.size > 65535 {
		s.size = 65535
	}
	return s
}

// told is a window, what befell it so far, and what it should be behind that.
type told struct {
	window *Window
	mss    int
	story  []act
	want   sizes
}

func begin(t *testing.T, mss int) *told {
	t.Helper()
	w, e := New(mss)
	if w == nil || e != api.OK {
		t.Fatalf("New(%d): %d", mss, e)
	}
	h := &told{window: w, mss: mss, want: sizes{2 * mss, 65535}}
	h.check(t)
	return h
}

// befall lets each of list befall the window, and checks it behind each.
func (h *told) befall(t *testing.T, list ...act) {
	t.Helper()
	for _, a := range list {
		switch a.kind {
		case acked:
			h.window.Acked(a.n)
		case lost:
			h.window.Lost(a.n)
		case silent:
			h.window.Silent(a.n)
		}
		h.story = append(h.story, a)
		h.want = befallSlowly(h.mss, h.want, a)
		h.check(t)
	}
}

// check holds Size and Slow against the slow ones, and that to ask for them
// changes nothing.
func (h *told) check(t *testing.T) {
	t.Helper()
	for range 2 {
		got := look(h.window)
		if got != h.want {
			t.Fatalf("mss %d, behind %v: it is %v, not %v", h.mss, brief(h.story), got, h.want)
		}
	}
}

// look is what a window tells.
func look(w *Window) sizes {
	return sizes{w.Size(), w.Slow()}
}

// brief is the end of a story, short enough to be told.
func brief(story []act) []act {
	return story[max(0, len(story)-20):]
}

// came are answers by which so many bytes came each.
func came(list ...int) []act {
	var story []act
	for _, n := range list {
		story = append(story, act{acked, n})
	}
	return story
}

// same are many answers by which n bytes came each.
func same(many, n int) []act {
	return slices.Repeat(came(n), many)
}

// behind is a story, and behind it another one.
func behind(first act, story ...act) []act {
	return append([]act{first}, story...)
}

// sizeCase is a story of a window of that mss, and what it is behind it. The
// numbers are the chapter's, worked out by hand.
type sizeCase struct {
	name  string
	mss   int
	story []act
	want  sizes
}

func checkSizes(t *testing.T, cases []sizeCase) {
	t.Helper()
	for _, c := range cases {
		h := begin(t, c.mss)
		h.befall(t, c.story...)
		if got := look(h.window); got != c.want {
			t.Errorf("%s: it is %v, not %v", c.name, got, c.want)
		}
	}
}

func TestNew(t *testing.T) {
	cases := []struct {
		mss  int
		want sizes
	}{
		{8, sizes{16, 65535}},
		{9, sizes{18, 65535}},
		{100, sizes{200, 65535}},
		{536, sizes{1072, 65535}},
		{999, sizes{1998, 65535}},
		{1000, sizes{2000, 65535}},
	}
	for _, c := range cases {
		w, e := New(c.mss)
		if w == nil || e != api.OK {
			t.Errorf("New(%d): %d", c.mss, e)
			continue
		}
		if got := look(w); got != c.want {
			t.Errorf("New(%d) is %v, not %v", c.mss, got, c.want)
		}
	}
}

func TestNewOfWrongMss(t *testing.T) {
	wrong := []int{math.MinInt, math.MinInt + 1, -1 << 32, -1000, -100, -8, -2, -1, 0, 1, 2, 6, 7, 1001, 1002, 2000,
		65535, 65536, 1<<32 + 100, math.MaxInt - 1, math.MaxInt}
	for _, mss := range wrong {
		if w, e := New(mss); w != nil || e != api.ErrArg {
			t.Errorf("New(%d): a window is %v, and it is %d", mss, w != nil, e)
		}
	}
}

func TestNewOfEachMss(t *testing.T) {
	for mss := -10; mss <= 1010; mss++ {
		w, e := New(mss)
		is := mss >= 8 && mss <= 1000
		if is != (w != nil) || is != (e == api.OK) || !is && e != api.ErrArg {
			t.Fatalf("New(%d): a window is %v, and it is %d", mss, w != nil, e)
		}
		if is && look(w) != (sizes{2 * mss, 65535}) {
			t.Fatalf("New(%d) is %v", mss, look(w))
		}
	}
}

func TestAckedBelowSlow(t *testing.T) {
	checkSizes(t, []sizeCase{
		{"the least int", 100, came(math.MinInt), sizes{200, 65535}},
		{"-100", 100, came(-100), sizes{200, 65535}},
		{"-1", 100, came(-1), sizes{200, 65535}},
		{"0", 100, came(0), sizes{200, 65535}},
		{"1", 100, came(1), sizes{201, 65535}},
		{"30", 100, came(30), sizes{230, 65535}},
		{"one less than mss", 100, came(99), sizes{299, 65535}},
		{"mss", 100, came(100), sizes{300, 65535}},
		{"one more than mss", 100, came(101), sizes{300, 65535}},
		{"twice mss", 100, came(200), sizes{300, 65535}},
		{"2^32", 100, came(1 << 32), sizes{300, 65535}},
		{"the greatest int", 100, came(math.MaxInt), sizes{300, 65535}},
		{"the greatest int, often", 100, same(5, math.MaxInt), sizes{700, 65535}},
		{"several", 100, came(100, 30, 0, -5, 1, 500), sizes{431, 65535}},
		{"the least mss", 8, came(7, 8, 9), sizes{39, 65535}},
		{"the greatest mss", 1000, came(999, 1000, 1001), sizes{4999, 65535}},
		{"one below Slow", 100, behind(act{silent, 1000}, came(100, 100, 100, 99, 50)...), sizes{549, 500}},
	})
}

func TestAckedFromSlowOn(t *testing.T) {
	at := func(flight int, list ...int) []act { return behind(act{lost, flight}, came(list...)...) }
	checkSizes(t, []sizeCase{
		{"at Slow, the least int", 100, at(600, math.MinInt), sizes{300, 300}},
		{"at Slow, -1", 100, at(600, -1), sizes{300, 300}},
		{"at Slow, 0", 100, at(600, 0), sizes{300, 300}},
		{"at Slow, 1", 100, at(600, 1), sizes{333, 300}},
		{"at Slow, 99", 100, at(600, 99), sizes{333, 300}},
		{"at Slow, mss", 100, at(600, 100), sizes{333, 300}},
		{"at Slow, more than mss", 100, at(600, 101), sizes{333, 300}},
		{"at Slow, the greatest int", 100, at(600, math.MaxInt), sizes{333, 300}},
		{"above Slow, 0", 100, at(600, 1, 0), sizes{333, 300}},
		{"above Slow, -1", 100, at(600, 1, -1), sizes{333, 300}},
		{"above Slow, 1", 100, at(600, 1, 1), sizes{363, 300}},
		{"above Slow, mss", 100, at(600, 1, 100), sizes{363, 300}},
		{"above Slow, the greatest int", 100, at(600, 1, math.MaxInt), sizes{363, 300}},
		{"above Slow, again and again", 100, at(600, 1, 1, 1, 1, 1), sizes{439, 300}},
		{"the quotient is the half of mss", 100, at(400, 1), sizes{250, 200}},
		{"one above the half of mss", 100, at(402, 1), sizes{250, 201}},
		{"the least mss", 8, at(32, 1, 1, 1), sizes{25, 16}},
		{"the greatest mss", 1000, at(4000, 1, 1, 1), sizes{3244, 2000}},
	})
}

func TestAckedByOneAtLeast(t *testing.T) {
	at := func(slow int, list ...int) []act { return behind(act{lost, 2 * slow}, came(list...)...) }
	checkSizes(t, []sizeCase{
		{"63 of mss 8: the quotient is 1", 8, at(63, 1), sizes{64, 63}},
		{"64: the quotient is just 1", 8, at(64, 1), sizes{65, 64}},
		{"65: it is below 1", 8, at(65, 1), sizes{66, 65}},
		{"65: 1 counts again and again", 8, at(65, 1, 1, 1, 1), sizes{69, 65}},
		{"32: the quotient is just 2", 8, at(32, 1), sizes{34, 32}},
		{"33: it is below 2", 8, at(33, 1), sizes{34, 33}},
		{"65000 of mss 8", 8, at(65000, 500), sizes{65001, 65000}},
		{"10000 of mss 100", 100, at(10000, 1), sizes{10001, 10000}},
		{"10001 of mss 100", 100, at(10001, 1), sizes{10002, 10001}},
		{"5001 of mss 100", 100, at(5001, 1), sizes{5002, 5001}},
		{"5000 of mss 100", 100, at(5000, 1), sizes{5002, 5000}},
		{"65025 of mss 255: just 1", 255, at(65025, 1), sizes{65026, 65025}},
		{"65026 of mss 255: below 1", 255, at(65026, 1), sizes{65027, 65026}},
		{"nothing came, of 65", 8, at(65, 0, -1), sizes{65, 65}},
	})
}

// Size may get past Slow by an answer that comes below it: nothing is cut there.
func TestAckedPastSlow(t *testing.T) {
	checkSizes(t, []sizeCase{
		{"just up to Slow", 100, behind(act{silent, 400}, came(100)...), sizes{200, 200}},
		{"up to Slow, and on", 100, behind(act{silent, 400}, came(100, 100)...), sizes{250, 200}},
		{"one below Slow", 100, behind(act{silent, 400}, came(99)...), sizes{199, 200}},
		{"past Slow from one below it", 100, behind(act{silent, 400}, came(99, 100)...), sizes{299, 200}},
		{"past Slow, and on", 100, behind(act{silent, 400}, came(99, 100, 100)...), sizes{332, 200}},
		{"past Slow from half way", 100, behind(act{silent, 500}, came(100, 100)...), sizes{300, 250}},
		{"up to Slow in small steps", 100, behind(act{silent, 400}, came(50, 49, 1, 1)...), sizes{250, 200}},
	})
}

func TestAckedUpToMaxCwnd(t *testing.T) {
	up := func(list ...int) []act { return append(same(63, 1000), came(list...)...) }
	at := func(slow int, list ...int) []act { return behind(act{lost, 2 * slow}, came(list...)...) }
	checkSizes(t, []sizeCase{
		{"below Slow, one less", 1000, up(534), sizes{65534, 65535}},
		{"below Slow, just that", 1000, up(535), sizes{65535, 65535}},
		{"below Slow, one more", 1000, up(536), sizes{65535, 65535}},
		{"below Slow, mss", 1000, up(1000), sizes{65535, 65535}},
		{"below Slow, the greatest int", 1000, up(math.MaxInt), sizes{65535, 65535}},
		{"below Slow, and on", 1000, up(1000, 1000, 1, math.MaxInt, 0), sizes{65535, 65535}},
		{"one below Slow", 1000, up(534, 1000), sizes{65535, 65535}},
		{"below Slow of mss 8", 8, same(8190, 8), sizes{65535, 65535}},
		{"below Slow of mss 8, one step less", 8, same(8189, 8), sizes{65528, 65535}},
		{"from Slow on, less", 1000, at(65519, 1), sizes{65534, 65519}},
		{"from Slow on, just that", 1000, at(65520, 1), sizes{65535, 65520}},
		{"from Slow on, more", 1000, at(65521, 1), sizes{65535, 65521}},
		{"from Slow on, twice", 1000, at(65510, 1, 1), sizes{65535, 65510}},
		{"from Slow on, by 1", 8, at(65534, 1), sizes{65535, 65534}},
		{"from Slow on, by 1 twice", 8, at(65534, 1, 1), sizes{65535, 65534}},
		{"at Slow and at the most", 8, at(65535, 1), sizes{65535, 65535}},
		{"at Slow and at the most, the greatest int", 1000, at(65535, math.MaxInt), sizes{65535, 65535}},
	})
}

// flights are flights of bytes, and Slow of them, by mss.
var flights = []struct{ mss, flight, slow int }{
	{100, math.MinInt, 200},
	{100, math.MinInt + 1, 200},
	{100, -1000, 200},
	{100, -1, 200},
	{100, 0, 200},
	{100, 1, 200},
	{100, 200, 200},
	{100, 398, 200},
	{100, 399, 200},
	{100, 400, 200},
	{100, 401, 200},
	{100, 402, 201},
	{100, 403, 201},
	{100, 600, 300},
	{100, 601, 300},
	{100, 5001, 2500},
	{8, 31, 16},
	{8, 32, 16},
	{8, 33, 16},
	{8, 34, 17},
	{1000, 0, 2000},
	{1000, 3999, 2000},
	{1000, 4001, 2000},
	{1000, 4002, 2001},
	{100, 65535, 32767},
	{100, 65536, 32768},
	{100, 131067, 65533},
	{100, 131068, 65534},
	{100, 131069, 65534},
	{100, 131070, 65535},
	{100, 131071, 65535},
	{100, 131072, 65535},
	{100, 131073, 65535},
	{8, 1 << 32, 65535},
	{1000, 1<<32 + 10, 65535},
	{100, math.MaxInt - 1, 65535},
	{100, math.MaxInt, 65535},
}

// aheads are what befell a window ahead of what is tested: none of it is of any
// matter for what Lost and Silent make of it.
var aheads = [][]act{
	nil,
	{{acked, 70}},
	{{lost, 900}},
	{{silent, 900}},
	{{silent, math.MaxInt}},
	{{lost, math.MaxInt}, {acked, 1}},
	{{lost, 0}, {acked, 1}, {acked, 1}},
}

func TestLost(t *testing.T) {
	for _, f := range flights {
		for _, ahead := range aheads {
			story := append(slices.Clone(ahead), act{lost, f.flight})
			checkSizes(t, []sizeCase{{"lost", f.mss, story, sizes{f.slow, f.slow}}})
		}
	}
}

func TestSilent(t *testing.T) {
	for _, f := range flights {
		for _, ahead := range aheads {
			story := append(slices.Clone(ahead), act{silent, f.flight})
			checkSizes(t, []sizeCase{{"silent", f.mss, story, sizes{f.mss, f.slow}}})
		}
	}
}

func TestAckedBehindLost(t *testing.T) {
	checkSizes(t, []sizeCase{
		{"Slow is reached at once", 100, append(same(5, 100), act{lost, 600}, act{acked, 100}), sizes{333, 300}},
		{"a Size below Slow counts no more", 100, []act{{silent, 900}, {acked, 100}, {lost, 0}, {acked, 100}}, sizes{250, 200}},
		{"a lower one behind a higher one", 100, []act{{lost, 5000}, {acked, 1}, {lost, 800}, {acked, 1}}, sizes{425, 400}},
		{"a higher one behind a lower one", 100, []act{{lost, 800}, {acked, 1}, {lost, 5000}, {acked, 1}}, sizes{2504, 2500}},
	})
}

func TestAckedBehindSilent(t *testing.T) {
	checkSizes(t, []sizeCase{
		{"below Slow", 100, []act{{silent, 1000}, {acked, 100}, {acked, 40}}, sizes{240, 500}},
		{"of the greatest Slow", 100, behind(act{silent, math.MaxInt}, same(3, 200)...), sizes{400, 65535}},
		{"up to Slow", 100, behind(act{silent, 1000}, same(4, 100)...), sizes{500, 500}},
		{"past Slow", 100, behind(act{silent, 1000}, same(5, 100)...), sizes{520, 500}},
		{"past Slow twice", 100, behind(act{silent, 1000}, same(6, 100)...), sizes{539, 500}},
		{"silent behind lost", 100, []act{{lost, 1000}, {silent, 600}, {acked, 100}}, sizes{200, 300}},
		{"lost behind silent", 100, []act{{silent, 600}, {lost, 1000}, {acked, 100}}, sizes{520, 500}},
		{"silent again and again", 100, []act{{silent, 600}, {silent, 100}, {silent, 100}}, sizes{100, 200}},
		{"the greatest mss, up to Slow", 1000, []act{{silent, 0}, {acked, 1000}, {acked, 1}}, sizes{2500, 2000}},
	})
}

func TestTwoWindows(t *testing.T) {
	a, b := begin(t, 100), begin(t, 1000)
	c := begin(t, 100)
	if a.window == c.window {
		t.Fatal("two windows are one")
	}
	for i := range 300 {
		one := []*told{a, b, c}[i*i%7%3]
		one.befall(t, act{[]int{acked, acked, acked, lost, silent}[i%5], i * 7919 % 5000})
		for _, h := range []*told{a, b, c} {
			h.check(t)
		}
	}
	begin(t, 100)
	if w, e := New(7); w != nil || e != api.ErrArg {
		t.Error("a wrong mss is taken once there are windows")
	}
	for _, h := range []*told{a, b, c} {
		h.check(t)
	}
}

// All stories of five acts, of numbers around each other.
func TestAllShortStories(t *testing.T) {
	acts := []act{{acked, 0}, {acked, 3}, {acked, 8}, {acked, 9}, {lost, 0}, {lost, 34}, {lost, 37},
		{silent, -1}, {silent, 40}, {silent, math.MaxInt}}
	var tell func(story []act)
	tell = func(story []act) {
		if len(story) == 5 {
			begin(t, 8).befall(t, story...)
			return
		}
		for _, a := range acts {
			tell(append(story[:len(story):len(story)], a))
		}
	}
	tell(nil)
}

// lot draws the same numbers at each run.
type lot uint64

func (l *lot) draw(n int) int {
	*l ^= *l << 13
	*l ^= *l >> 7
	*l ^= *l << 17
	return int(uint64(*l) % uint64(n))
}

// act draws what befalls a window of that mss, with flights mostly below top.
func (l *lot) act(mss, top int) act {
	switch l.draw(40) {
	case 0:
		return act{lost, l.draw(top)}
	case 1:
		return act{silent, l.draw(top)}
	case 2:
		return act{l.draw(3), []int{math.MinInt, -1, 0, 1, 4 * mss, 131070, math.MaxInt}[l.draw(7)]}
	}
	return act{acked, l.draw(2 * mss)}
}

func TestLongStories(t *testing.T) {
	l := lot(88172645463325252)
	for _, mss := range []int{8, 9, 100, 255, 256, 536, 999, 1000} {
		for _, top := range []int{100, 2000, 20000, 200000} {
			for range 10 {
				h := begin(t, mss)
				for range 1 + l.draw(300) {
					h.befall(t, l.act(mss, top))
				}
			}
		}
	}
}
