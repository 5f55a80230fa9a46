package seq

import (
	"math"
	"testing"
)

const (
	round = 1 << 32 // where numbers go round
	half  = 1 << 31
	last  = round - 1
	limit = 1 << 60 // of Near's at
)

// numbers lie at both ends, in the middle, and a quarter round, where ways
// round change their side.
func numbers() []uint32 {
	return []uint32{0, 1, 2, 3, 100, half/2 - 1, half / 2, half/2 + 1, half - 2, half - 1, half,
		half + 1, half + 2, half + half/2, last - 100, last - 2, last - 1, last}
}

// counts lie around each bound that a count of numbers has.
func counts() []int {
	return []int{math.MinInt, math.MinInt + 1, -round - 1, -round, -half, -2, -1, 0, 1, 2, 3, 4, 99,
		100, 101, half - 1, half, half + 1, last - 1, last, round, round + 1, round + 2, 2*round - 1,
		2 * round, 2*round + 1, 3*round + 5, limit, math.MaxInt - 1, math.MaxInt}
}

// slowDiff goes by whole numbers: of all distances that end at a it takes the
// one that is within its bounds.
func slowDiff(a, b uint32) int {
	d := int(a) - int(b)
	for d < -half {
		d += round
	}
	for d > half-1 {
		d -= round
	}
	return d
}

// slowIn lays the numbers down as one stretch, or two if they go round.
func slowIn(n, from uint32, many int) bool {
	if many < 1 {
		return false
	}
	if many > round {
		return true
	}
	end := int(from) + many
	if end <= round {
		return int(n) >= int(from) && int(n) < end
	}
	return int(n) >= int(from) || int(n) < end-round
}

// slowAccept goes by the chapter's words, one behind the other.
func slowAccept(n uint32, length int, next uint32, win int) bool {
	if length < 1 && win < 1 {
		return n == next
	}
	if length < 1 {
		return slowIn(n, next, win)
	}
	if win < 1 {
		return false
	}
	end := (uint64(n) + uint64(length) - 1) % round
	return slowIn(n, next, win) || slowIn(uint32(end), next, win)
}

// slowNear looks at all that may be nearest, from the lowest one on.
func slowNear(n uint32, at int) int {
	if at < 0 {
		at = 0
	}
	if at > limit {
		at = limit
	}
	first := at - at%round - 2*round + int(n)
	best := first
	for k := first; k <= first+4*round; k += round {
		if apart(k, at) < apart(best, at) {
			best = k
		}
	}
	return best
}

func apart(a, b int) int {
	return max(a-b, b-a)
}

func TestDiffOfGivenNumbers(t *testing.T) {
	cases := []struct {
		name string
		a, b uint32
		want int
	}{
		{"the same", 7, 7, 0},
		{"the same, 0", 0, 0, 0},
		{"the same, last", last, last, 0},
		{"behind", 12, 7, 5},
		{"ahead", 7, 12, -5},
		{"behind, going round", 3, round - 2, 5},
		{"ahead, going round", round - 2, 3, -5},
		{"next behind the last", 0, last, 1},
		{"last ahead of the next", last, 0, -1},
		{"farthest behind", half - 1, 0, half - 1},
		{"farthest behind, going round", half - 2, last, half - 1},
		{"across", half, 0, -half},
		{"across, the other way", 0, half, -half},
		{"across, not at 0", 5, half + 5, -half},
		{"across, going round", last, half - 1, -half},
		{"just beyond across", half + 1, 0, -half + 1},
	}
	for _, c := range cases {
		if got := Diff(c.a, c.b); got != c.want {
			t.Errorf("%s: Diff is %d, not %d", c.name, got, c.want)
		}
		if got := Less(c.a, c.b); got != (c.want < 0) {
			t.Errorf("%s: Less is %t", c.name, got)
		}
	}
}

func TestDiffOfManyNumbers(t *testing.T) {
	for _, a := range numbers() {
		for _, b := range numbers() {
			want := slowDiff(a, b)
			if got := Diff(a, b); got != want {
				t.Errorf("Diff(%d, %d) is %d, not %d", a, b, got, want)
			}
			if got := Less(a, b); got != (want < 0) {
				t.Errorf("Less(%d, %d) is %t", a, b, got)
			}
		}
	}
}

// Two numbers that lie across from one another are each ahead of the other;
// of all other pairs one alone is.
func TestLessBothWays(t *testing.T) {
	for _, a := range numbers() {
		if !Less(a, a+half) || !Less(a+half, a) {
			t.Errorf("%d and %d lie across, and one is not Less", a, a+half)
		}
		if Less(a, a) {
			t.Errorf("%d is Less than itself", a)
		}
		for _, far := range []uint32{1, 2, 1000, half - 1} {
			if !Less(a, a+far) || Less(a+far, a) {
				t.Errorf("%d and %d are not in their order", a, a+far)
			}
		}
	}
}

func TestInOfGivenNumbers(t *testing.T) {
	cases := []struct {
		name    string
		n, from uint32
		many    int
		want    bool
	}{
		{"the first", 5, 5, 3, true},
		{"the last", 7, 5, 3, true},
		{"behind the last", 8, 5, 3, false},
		{"ahead of the first", 4, 5, 3, false},
		{"the only one", 5, 5, 1, true},
		{"behind the only one", 6, 5, 1, false},
		{"none", 5, 5, 0, false},
		{"below none", 5, 5, -1, false},
		{"far below none", 5, 5, math.MinInt, false},
		{"below none by all", 5, 5, -round + 1, false},
		{"the first, ahead of going round", last, last, 3, true},
		{"going round", 0, last, 3, true},
		{"the last, gone round", 1, last, 3, true},
		{"behind the last, gone round", 2, last, 3, false},
		{"ahead of the first, going round", last - 1, last, 3, false},
		{"all but one, the last", 3, 5, last, true},
		{"all but one, that one", 4, 5, last, false},
		{"all", 4, 5, round, true},
		{"more than all", 4, 5, round + 1, true},
		{"more than all by few", 4, 4, round + 1, true},
		{"twice all", 4, 5, 2 * round, true},
		{"as many as can be", 4, 5, math.MaxInt, true},
		{"half of all, the last", half + 4, 5, half, true},
		{"half of all, behind it", half + 5, 5, half, false},
	}
	for _, c := range cases {
		if got := In(c.n, c.from, c.many); got != c.want {
			t.Errorf("%s: In is %t", c.name, got)
		}
	}
}

func TestInOfManyNumbers(t *testing.T) {
	for _, n := range numbers() {
		for _, from := range numbers() {
			for _, many := range counts() {
				if got, want := In(n, from, many), slowIn(n, from, many); got != want {
					t.Errorf("In(%d, %d, %d) is %t", n, from, many, got)
				}
			}
		}
	}
}

func TestAcceptOfGivenNumbers(t *testing.T) {
	cases := []struct {
		name   string
		n      uint32
		length int
		next   uint32
		win    int
		want   bool
	}{
		{"nothing and no room, at next", 10, 0, 10, 0, true},
		{"nothing and no room, behind next", 11, 0, 10, 0, false},
		{"nothing and no room, ahead of next", 9, 0, 10, 0, false},
		{"below nothing and below no room", 10, -3, 10, -7, true},
		{"below nothing and below no room, behind next", 11, -3, 10, -7, false},
		{"far below nothing and no room", 10, math.MinInt, 10, math.MinInt, true},
		{"nothing, at next", 10, 0, 10, 10, true},
		{"nothing, at the last that is let in", 19, 0, 10, 10, true},
		{"nothing, behind what is let in", 20, 0, 10, 10, false},
		{"nothing, ahead of next", 9, 0, 10, 10, false},
		{"below nothing, at the last", 19, -1, 10, 10, true},
		{"below nothing, behind it", 20, -1, 10, 10, false},
		{"below nothing, ahead of next", 9, -1, 10, 10, false},
		{"no room, at next", 10, 1, 10, 0, false},
		{"no room, over next", 8, 5, 10, 0, false},
		{"below no room, at next", 10, 1, 10, -1, false},
		{"far below no room", 10, 1, 10, math.MinInt, false},
		{"one, at next", 10, 1, 10, 10, true},
		{"ends ahead of next", 8, 2, 10, 10, false},
		{"ends at next", 8, 3, 10, 10, true},
		{"begins at the last, goes beyond", 19, 9, 10, 10, true},
		{"begins behind what is let in", 20, 9, 10, 10, false},
		{"ends at the last", 5, 15, 10, 10, true},
		{"begins ahead, ends behind", 5, 16, 10, 10, false},
		{"begins at next, ends behind", 10, 11, 10, 10, true},
		{"going round, at the last", 1, 0, last, 3, true},
		{"going round, behind it", 2, 0, last, 3, false},
		{"goes round to next", last, 3, 1, 4, true},
		{"goes round, ends ahead of next", last, 2, 1, 4, false},
		{"last one cut to 32 bits, at next", 8, round + 3, 10, 10, true},
		{"last one cut to 32 bits, ahead of next", 8, round + 2, 10, 10, false},
		{"all numbers, the last one ahead of n", 11, round, 10, 1, true},
		{"as many as can be, the last one cut", 12, math.MaxInt, 10, 1, true},
		{"as many as can be, cut to another", 13, math.MaxInt, 10, 1, false},
		{"all are let in", 9, 1, 10, round, true},
		{"more than all are let in", 9, 0, 10, math.MaxInt, true},
		{"all but one are let in, that one", 9, 1, 10, last, false},
	}
	for _, c := range cases {
		if got := Accept(c.n, c.length, c.next, c.win); got != c.want {
			t.Errorf("%s: Accept is %t", c.name, got)
		}
	}
}

func TestAcceptOfManyNumbers(t *testing.T) {
	for _, n := range numbers() {
		for _, next := range numbers() {
			for _, length := range counts() {
				for _, win := range counts() {
					got := Accept(n, length, next, win)
					if want := slowAccept(n, length, next, win); got != want {
						t.Fatalf("Accept(%d, %d, %d, %d) is %t", n, length, next, win, got)
					}
				}
			}
		}
	}
}

// All windows, and all that may come, around the place where numbers go round.
func TestAcceptAroundTheRound(t *testing.T) {
	for next := -6; next <= 6; next++ {
		for n := -12; n <= 12; n++ {
			for length := -1; length <= 8; length++ {
				for win := -1; win <= 8; win++ {
					got := Accept(uint32(n), length, uint32(next), win)
					if want := slowAccept(uint32(n), length, uint32(next), win); got != want {
						t.Fatalf("Accept(%d, %d, %d, %d) is %t", n, length, next, win, got)
					}
				}
			}
		}
	}
}

func TestNearOfGivenNumbers(t *testing.T) {
	cases := []struct {
		name string
		n    uint32
		at   int
		want int
	}{
		{"there", 5, 5, 5},
		{"behind", 9, 5, 9},
		{"ahead", 1, 5, 1},
		{"behind, going round", 1, round - 1, round + 1},
		{"ahead, going round", last, round + 5, round - 1},
		{"in a later round", 7, 5*round + 3, 5*round + 7},
		{"below 0", last, 0, -1},
		{"below 0, not at 0", last - 1, 1, -2},
		{"farthest behind", half - 1, 0, half - 1},
		{"equally near, the lower one below 0", half, 0, -half},
		{"equally near", 5, half + 5, 5},
		{"equally near, the lower one a round ahead", 0, round + half, round},
		{"equally near, far out", half, limit, limit - half},
		{"just nearer behind", 0, round + half + 1, 2 * round},
		{"just nearer ahead", 0, round + half - 1, round},
		{"at below 0", 3, -1, 3},
		{"at below 0, nearer below 0", last, -1, -1},
		{"at below 0, equally near to 0", half, -1, -half},
		{"at far below 0", last, math.MinInt, -1},
		{"at a round below 0", 3, -round, 3},
		{"at 2^60", 0, limit, limit},
		{"at 2^60, behind", 9, limit, limit + 9},
		{"at 2^60, ahead", last, limit, limit - 1},
		{"at 2^60, farthest behind", half - 1, limit, limit + half - 1},
		{"at above 2^60", 0, limit + 7*round, limit},
		{"at above 2^60 by one", half, limit + 1, limit - half},
		{"at as high as can be", 9, math.MaxInt, limit + 9},
	}
	for _, c := range cases {
		if got := Near(c.n, c.at); got != c.want {
			t.Errorf("%s: Near is %d, not %d", c.name, got, c.want)
		}
	}
}

func TestNearOfManyNumbers(t *testing.T) {
	bases := []int{0, half, round, round + half, 5 * round, 1 << 40, limit - round, limit - half, limit, limit + half, limit + round}
	ats := counts()
	for _, base := range bases {
		for d := -3; d <= 3; d++ {
			ats = append(ats, base+d)
		}
	}
	for _, n := range numbers() {
		for _, at := range ats {
			if got, want := Near(n, at), slowNear(n, at); got != want {
				t.Errorf("Near(%d, %d) is %d, not %d", n, at, got, want)
			}
		}
	}
}

// P2: what a call answers hangs on nothing that was handed to another one.
func TestNothingIsKept(t *testing.T) {
	for _, n := range numbers() {
		for _, many := range counts() {
			Diff(n, 1)
			Less(n, 1)
			In(n, 1, many)
			Accept(n, many, 1, many)
			Near(n, many)
			if Diff(3, round-2) != 5 || Less(3, round-2) || !In(1, last, 3) || In(2, last, 3) {
				t.Fatalf("behind %d and %d Diff, Less or In answers otherwise", n, many)
			}
			if !Accept(8, 3, 10, 10) || Accept(8, 2, 10, 10) || Near(1, round-1) != round+1 {
				t.Fatalf("behind %d and %d Accept or Near answers otherwise", n, many)
			}
		}
	}
}
