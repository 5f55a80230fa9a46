package rto

import (
	"math"
	"slices"
	"testing"

	"packetboat/api"
)

const most = 1 << 40 // of Sample's r

// act is what befalls a timer: an answer behind r ticks, or that none came.
type act struct {
	r    int
	late bool
}

// none is that no answer came.
var none = act{late: true}

// slowValue goes over a story from its beginning, by RFC 6298's own fractions:
// eighths and fourths of ticks up to 2^42 are exact in a float64.
func slowValue(story []act) int {
	var mean, spread float64
	known, doubled := false, 0
	for _, a := range story {
		r := float64(a.r)
		switch {
		case a.late:
			doubled++
		case a.r < 0 || a.r > most:
		case !known:
			mean, spread, known, doubled = r, r/2, true, 0
		default:
			d := r - math.Floor(mean)
			mean += d / 8
			spread += (math.Abs(d) - math.Floor(spread)) / 4
			doubled = 0
		}
	}
	v := 3.0
	if known {
		v = math.Floor(mean) + max(1, 4*spread)
	}
	for range min(doubled, 6) {
		v *= 2
	}
	return int(min(max(v, 2), 64))
}

// told is a timer, and the story of what befell it so far.
type told struct {
	timer *Timer
	story []act
}

func begin() *told {
	return &told{timer: New()}
}

// befall lets a befall the timer, and holds what Sample answers.
func (h *told) befall(t *testing.T, a act) {
	t.Helper()
	h.story = append(h.story, a)
	if a.late {
		h.timer.Late()
		return
	}
	want := api.OK
	if a.r < 0 || a.r > most {
		want = api.ErrArg
	}
	if e := h.timer.Sample(a.r); e != want {
		t.Fatalf("behind %v: Sample is %d, not %d", brief(h.story), e, want)
	}
}

// check holds Value against the slow one, and that to ask for it changes
// nothing.
func (h *told) check(t *testing.T) {
	t.Helper()
	want := slowValue(h.story)
	for range 2 {
		if v := h.timer.Value(); v != want {
			t.Fatalf("behind %v: Value is %d, not %d", brief(h.story), v, want)
		}
	}
}

// brief is the end of a story, short enough to be told.
func brief(story []act) []act {
	return story[max(0, len(story)-20):]
}

// late is story, and behind it n times that no answer came.
func late(n int, story ...act) []act {
	return slices.Concat(story, slices.Repeat([]act{none}, n))
}

// answers are answers behind so many ticks each.
func answers(list ...int) []act {
	var story []act
	for _, r := range list {
		story = append(story, act{r: r})
	}
	return story
}

// same are n answers behind r ticks each.
func same(n, r int) []act {
	return slices.Repeat(answers(r), n)
}

// valueCase is a story by its name, and Value behind all of it.
type valueCase struct {
	name  string
	story []act
	want  int
}

func checkValues(t *testing.T, cases []valueCase) {
	t.Helper()
	for _, c := range cases {
		h := begin()
		for _, a := range c.story {
			h.befall(t, a)
		}
		h.check(t)
		if v := h.timer.Value(); v != c.want {
			t.Errorf("%s: Value is %d, not %d", c.name, v, c.want)
		}
	}
}

func TestNew(t *testing.T) {
	r := New()
	if r == nil || r.Value() != 3 {
		t.Error("a new timer doesn't wait for 3 ticks")
	}
}

func TestValueWithoutAnswer(t *testing.T) {
	checkValues(t, []valueCase{
		{"never doubled", nil, 3},
		{"doubled once", late(1), 6},
		{"doubled twice", late(2), 12},
		{"doubled 3 times", late(3), 24},
		{"doubled 4 times", late(4), 48},
		{"doubled 5 times, at most 64", late(5), 64},
		{"doubled 6 times", late(6), 64},
		{"doubled 7 times", late(7), 64},
		{"doubled 62 times", late(62), 64},
		{"doubled 63 times", late(63), 64},
		{"doubled 64 times", late(64), 64},
		{"doubled 65 times", late(65), 64},
		{"doubled 1000 times", late(1000), 64},
	})
}

// A mean of 0 is one: it is not what a timer begins with.
func TestValueAtItsLeast(t *testing.T) {
	checkValues(t, []valueCase{
		{"1, so 2", answers(0), 2},
		{"1 doubled once", late(1, answers(0)...), 2},
		{"1 doubled twice", late(2, answers(0)...), 4},
		{"1 doubled 3 times", late(3, answers(0)...), 8},
		{"1 doubled 4 times", late(4, answers(0)...), 16},
		{"1 doubled 5 times", late(5, answers(0)...), 32},
		{"1 doubled 6 times", late(6, answers(0)...), 64},
		{"1 doubled 7 times", late(7, answers(0)...), 64},
		{"1 again and again", same(50, 0), 2},
		{"1 again and again, doubled 3 times", late(3, same(50, 0)...), 8},
	})
}

func TestValueAtItsMost(t *testing.T) {
	checkValues(t, []valueCase{
		{"63", answers(21), 63},
		{"63 doubled", late(1, answers(21)...), 64},
		{"66, so 64", answers(22), 64},
		{"66 doubled 6 times", late(6, answers(22)...), 64},
		{"63, of two answers", answers(16, 37), 63},
		{"64, of two answers", answers(16, 38), 64},
		{"65, of two answers", answers(16, 39), 64},
		{"16 doubled twice", late(2, answers(8, 9, 9, 9, 9, 9)...), 64},
		{"15 doubled twice", late(2, answers(8, 9, 9, 9, 9, 9, 9)...), 60},
		{"2^40", answers(most), 64},
		{"2^40 doubled 6 times", late(6, answers(most)...), 64},
		{"2^40 doubled 1000 times", late(1000, answers(most)...), 64},
		{"2^40 again and again", same(100, most), 64},
		{"2^40 again and again, doubled 6 times", late(6, same(100, most)...), 64},
	})
}

// A spread is 0 only until a first answer is not behind 0 ticks.
func TestValueOfSpreads(t *testing.T) {
	checkValues(t, []valueCase{
		{"0, of which 1 is told", late(2, answers(0)...), 4},
		{"0, behind another 0", late(2, answers(0, 0)...), 4},
		{"1", late(2, answers(0, 1)...), 4},
		{"1, behind two answers at once", late(2, answers(0, 0, 1)...), 4},
		{"2, of the first one", late(2, answers(1)...), 12},
		{"2, of others", late(2, answers(0, 1, 1)...), 8},
		{"2, of others, not doubled", answers(0, 1, 1), 2},
		{"3, of others", answers(0, 1, 1, 1), 3},
		{"2 of one answer", answers(0, 2), 2},
		{"3 of one answer", answers(0, 3), 3},
		{"4 of the first one", answers(2), 6},
		{"16 of the first one", answers(8), 24},
	})
}

func TestSampleOfGivenTicks(t *testing.T) {
	cases := []struct {
		r    int
		want api.Errno
	}{
		{math.MinInt, api.ErrArg},
		{math.MinInt + 1, api.ErrArg},
		{-most, api.ErrArg},
		{-1 << 32, api.ErrArg},
		{-2, api.ErrArg},
		{-1, api.ErrArg},
		{0, api.OK},
		{1, api.OK},
		{1 << 32, api.OK},
		{most - 1, api.OK},
		{most, api.OK},
		{most + 1, api.ErrArg},
		{most + 2, api.ErrArg},
		{2 * most, api.ErrArg},
		{1 << 61, api.ErrArg},
		{math.MaxInt - 1, api.ErrArg},
		{math.MaxInt, api.ErrArg},
	}
	for _, c := range cases {
		if e := New().Sample(c.r); e != c.want {
			t.Errorf("Sample(%d) of a new timer is %d, not %d", c.r, e, c.want)
		}
		r := New()
		r.Sample(8)
		r.Late()
		if e := r.Sample(c.r); e != c.want {
			t.Errorf("Sample(%d) behind another is %d, not %d", c.r, e, c.want)
		}
	}
}

// step is an answer behind r ticks, and what mean, spread and Value are then.
type step struct{ r, mean, spread, value int }

// The steps are the chapter's, worked out by hand.
func TestSampleStepByStep(t *testing.T) {
	cases := []struct {
		name  string
		steps []step
	}{
		{"as much, again and again", []step{{8, 64, 16, 24}, {8, 64, 12, 20}, {8, 64, 9, 17}, {8, 64, 7, 15},
			{8, 64, 6, 14}, {8, 64, 5, 13}, {8, 64, 4, 12}, {8, 64, 3, 11}, {8, 64, 3, 11}, {8, 64, 3, 11}}},
		{"more", []step{{8, 64, 16, 24}, {16, 72, 20, 29}}},
		{"less", []step{{8, 64, 16, 24}, {0, 56, 20, 27}}},
		{"one more, again and again", []step{{8, 64, 16, 24}, {9, 65, 13, 21}, {9, 66, 11, 19}, {9, 67, 10, 18},
			{9, 68, 9, 17}, {9, 69, 8, 16}, {9, 70, 7, 15}, {9, 71, 7, 15}, {9, 72, 7, 16}, {9, 72, 6, 15}, {9, 72, 5, 14}}},
		{"one less, then as much as the eighth", []step{{8, 64, 16, 24}, {7, 63, 13, 20}, {7, 63, 10, 17}, {7, 63, 8, 15},
			{6, 62, 7, 14}}},
		{"less behind a mean of 65", []step{{8, 64, 16, 24}, {9, 65, 13, 21}, {5, 62, 13, 20}, {7, 62, 10, 17}, {5, 60, 10, 17}}},
		{"a spread that stays", []step{{3, 24, 6, 9}, {4, 25, 6, 9}, {4, 26, 6, 9}, {4, 27, 6, 9}, {4, 28, 6, 9}}},
		{"0, again and again", []step{{0, 0, 0, 2}, {0, 0, 0, 2}, {0, 0, 0, 2}}},
		{"1 behind 0", []step{{0, 0, 0, 2}, {1, 1, 1, 2}, {1, 2, 2, 2}, {1, 3, 3, 3}, {1, 4, 4, 4}, {1, 5, 4, 4},
			{1, 6, 4, 4}, {1, 7, 4, 4}, {1, 8, 4, 5}, {1, 8, 3, 4}, {1, 8, 3, 4}}},
		{"0 behind 1", []step{{1, 8, 2, 3}, {0, 7, 3, 3}, {0, 7, 3, 3}}},
		{"20 behind 1", []step{{1, 8, 2, 3}, {20, 27, 21, 24}, {20, 44, 33, 38}, {20, 59, 40, 47}}},
		{"1 behind 20", []step{{20, 160, 40, 60}, {1, 141, 49, 64}, {1, 125, 53, 64}, {1, 111, 54, 64}}},
		{"1 behind 10", []step{{10, 80, 20, 30}, {1, 71, 24, 32}, {1, 64, 25, 33}, {1, 57, 26, 33}, {1, 51, 26, 32}, {1, 46, 25, 30}}},
		{"100 behind 1", []step{{1, 8, 2, 3}, {100, 107, 101, 64}, {100, 194, 163, 64}}},
		{"2^40 behind 0", []step{{0, 0, 0, 2}, {most, most, most, 64}, {0, most / 8 * 7, most / 8 * 7, 64}}},
		{"0 behind 2^40", []step{{most, 8 * most, 2 * most, 64}, {0, 7 * most, most / 2 * 5, 64}}},
		{"2^40 behind 2^40", []step{{most, 8 * most, 2 * most, 64}, {most, 8 * most, most / 2 * 3, 64}}},
	}
	for _, c := range cases {
		h := begin()
		for i, s := range c.steps {
			h.befall(t, act{r: s.r})
			h.check(t)
			got := step{s.r, h.timer.mean, h.timer.spread, h.timer.Value()}
			if got != s {
				t.Errorf("%s: behind %d answers it is %v, not %v", c.name, i+1, got, s)
			}
		}
	}
}

// Behind a great answer Value is 64 until many small ones came: by how many,
// great means and spreads are seen that Value itself doesn't tell.
func TestSampleOfGreatTicks(t *testing.T) {
	stories := [][]act{
		answers(most),
		answers(most - 1),
		answers(1, most),
		answers(0, most),
		answers(most, 0, most),
		answers(most, most, most),
		slices.Concat(answers(5), same(300, most)),
		answers(1<<32, 1<<31),
		answers(1<<32-1, 1),
		answers(1000, 999, 1001),
		answers(65),
	}
	for _, story := range stories {
		for _, small := range []int{0, 1, 7, 8, 40} {
			h := begin()
			for _, a := range story {
				h.befall(t, a)
				h.check(t)
			}
			for range 600 {
				h.befall(t, act{r: small})
				h.check(t)
			}
			if v := h.timer.Value(); v >= 64 {
				t.Errorf("behind %v and many answers of %d Value is still %d", brief(story), small, v)
			}
		}
	}
}

// An answer that is not taken is none: not a first one, none that changes a
// mean or a spread, and none that ends what is doubled.
func TestSampleThatIsNotTaken(t *testing.T) {
	wrong := answers(-1, most+1, math.MinInt, math.MaxInt)
	checkValues(t, []valueCase{
		{"ahead of all", wrong, 3},
		{"ahead of the first one", slices.Concat(wrong, answers(8)), 24},
		{"behind the first one", slices.Concat(answers(8), wrong), 24},
		{"between the first two", slices.Concat(answers(8), wrong, answers(16)), 29},
		{"behind what is doubled, of no answer", slices.Concat(late(2), wrong), 12},
		{"behind what is doubled, of an answer", slices.Concat(late(1, answers(8)...), wrong), 48},
		{"between what is doubled", slices.Concat(late(1), wrong, late(1), wrong), 12},
		{"between what is doubled and its end", slices.Concat(late(2), wrong, answers(8)), 24},
	})
	for _, ahead := range [][]act{nil, late(3), answers(8), answers(0), answers(most), late(2, answers(8, 9, 5)...)} {
		for _, a := range wrong {
			h := begin()
			for _, b := range ahead {
				h.befall(t, b)
			}
			before := *h.timer
			h.befall(t, a)
			if *h.timer != before {
				t.Errorf("behind %v: Sample(%d) changes the timer", ahead, a.r)
			}
		}
	}
}

func TestLate(t *testing.T) {
	checkValues(t, []valueCase{
		{"never", answers(1), 3},
		{"once", late(1, answers(1)...), 6},
		{"twice", late(2, answers(1)...), 12},
		{"3 times", late(3, answers(1)...), 24},
		{"4 times", late(4, answers(1)...), 48},
		{"5 times", late(5, answers(1)...), 64},
		{"6 times", late(6, answers(1)...), 64},
		{"7 times", late(7, answers(1)...), 64},
		{"1000 times", late(1000, answers(1)...), 64},
		{"once ahead of the first one", slices.Concat(late(1), answers(1)), 3},
		{"6 times ahead of the first one", slices.Concat(late(6), answers(1)), 3},
		{"7 times ahead of the first one", slices.Concat(late(7), answers(1)), 3},
		{"1000 times ahead of the first one", slices.Concat(late(1000), answers(1)), 3},
		{"once ahead of the first one, and once behind it", slices.Concat(late(1), answers(1), late(1)), 6},
		{"7 times ahead of the first one, and twice behind it", slices.Concat(late(7), answers(1), late(2)), 12},
		{"once ahead of the second one", slices.Concat(late(1, answers(8)...), answers(8)), 20},
		{"7 times ahead of the second one", slices.Concat(late(7, answers(8)...), answers(8)), 20},
		{"7 times ahead of the second one, and once behind it", slices.Concat(late(7, answers(8)...), answers(8), late(1)), 40},
		{"ahead of each one", slices.Concat(late(1), answers(8), late(2), answers(8), late(3), answers(16)), 26},
		{"ahead of an answer of 0", slices.Concat(late(6), answers(0)), 2},
	})
}

// What is doubled does not go on to be counted behind the sixth time, though
// Value mostly shows no more of it.
func TestLateIsCountedToSix(t *testing.T) {
	for _, ahead := range [][]act{nil, answers(0), answers(8), answers(most)} {
		h := begin()
		for _, a := range late(6, ahead...) {
			h.befall(t, a)
		}
		sixth := *h.timer
		for range 100 {
			h.befall(t, none)
			if *h.timer != sixth {
				t.Fatalf("behind %v: Late changes the timer more often than 6 times", brief(h.story))
			}
		}
	}
}

func TestTwoTimers(t *testing.T) {
	a, b := begin(), begin()
	if a.timer == b.timer {
		t.Fatal("two timers are one")
	}
	for i := range 200 {
		one, other := a, b
		if i%3 == 0 {
			one, other = b, a
		}
		one.befall(t, act{r: i * 7 % 23, late: i%4 == 0})
		one.check(t)
		other.check(t)
	}
	if c := begin(); c.timer.Value() != 3 {
		t.Error("a new timer knows of others")
	}
}

// All stories of five acts, of answers around each other.
func TestAllShortStories(t *testing.T) {
	acts := append(answers(-1, 0, 1, 2, 3, 8, 9, 17), none)
	var tell func(story []act)
	tell = func(story []act) {
		h := begin()
		for _, a := range story {
			h.befall(t, a)
		}
		h.check(t)
		if len(story) == 5 {
			return
		}
		for _, a := range acts {
			tell(append(story[:len(story):len(story)], a))
		}
	}
	tell(nil)
}

// lot draws the same numbers at each run.
type lot uint64

func (l *lot) draw(n int) int {
	*l ^= *l << 13
	*l ^= *l >> 7
	*l ^= *l << 17
	return int(uint64(*l) % uint64(n))
}

// act draws what befalls a timer, with answers mostly below top.
func (l *lot) act(top int) act {
	switch l.draw(10) {
	case 0, 1:
		return none
	case 2:
		return act{r: []int{-1, 0, 1, most, most + 1}[l.draw(5)]}
	}
	return act{r: l.draw(top)}
}

func TestLongStories(t *testing.T) {
	l := lot(88172645463325252)
	for _, top := range []int{1, 2, 4, 10, 20, 40, 100, 1000} {
		for range 300 {
			h := begin()
			for range 1 + l.draw(80) {
				h.befall(t, l.act(top))
				h.check(t)
			}
		}
	}
}
