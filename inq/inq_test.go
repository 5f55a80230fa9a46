package inq

import (
	"math"
	"slices"
	"strings"
	"testing"
)

// lacks is what a place of a slow queue has at which nothing lies.
const lacks = -1

// slowQueue has each place it ever had, from 0 on.
type slowQueue struct {
	places []int // a byte, or that it lacks; SYN's is never asked for
	first  int
	next   int
	fin    int // -1: none is known
	over   bool
}

func newSlow() *slowQueue {
	return &slowQueue{places: []int{lacks}, first: 1, next: 1, fin: -1}
}

// lies is what lies at a place, which is not below 0.
func (s *slowQueue) lies(at int) int {
	if at < len(s.places) {
		return s.places[at]
	}
	return lacks
}

// ready counts the bytes that aren't read one by one.
func (s *slowQueue) ready() int {
	n := 0
	for at := s.first; at < s.next; at++ {
		if s.lies(at) != lacks {
			n++
		}
	}
	return n
}

func (s *slowQueue) window() int {
	return 2048 - s.ready()
}

func (s *slowQueue) read(most int) string {
	var list []byte
	for n := s.ready(); n > 0 && len(list) < most; n-- {
		list = append(list, byte(s.lies(s.first)))
		s.first++
	}
	return string(list)
}

func (s *slowQueue) put(at int, body string, fin bool) bool {
	if at < -1<<60 || at > 1<<60 || s.over {
		return false
	}
	behind := s.next + s.window()
	for i := range len(body) {
		s.take(at+i, behind, body[i])
	}
	if fin && s.mayEnd(at+len(body), behind) {
		s.fin = at + len(body)
	}
	return s.move()
}

// take lets b lie at a place, if it may.
func (s *slowQueue) take(at, behind int, b byte) {
	if at < s.next || at >= behind || s.fin >= 0 && at >= s.fin || s.lies(at) != lacks {
		return
	}
	for at >= len(s.places) {
		s.places = append(s.places, lacks)
	}
	s.places[at] = int(b)
}

// mayEnd tells whether FIN may be known at a place.
func (s *slowQueue) mayEnd(at, behind int) bool {
	if s.fin >= 0 || at < s.next || at > behind {
		return false
	}
	for ; at < len(s.places); at++ {
		if s.places[at] != lacks {
			return false
		}
	}
	return true
}

func (s *slowQueue) move() bool {
	moved := false
	for s.lies(s.next) != lacks {
		s.next++
		moved = true
	}
	if s.next == s.fin {
		s.next++
		s.over = true
		moved = true
	}
	return moved
}

// Kinds of what befalls a queue.
const (
	puts = iota
	ends
	reads
)

// act is what befalls a queue: a text at a place, with FIN if it ends, or how
// much is read.
type act struct {
	kind int
	n    int
	text string
}

func put(at int, text string) act { return act{kind: puts, n: at, text: text} }
func end(at int, text string) act { return act{kind: ends, n: at, text: text} }
func read(most int) act           { return act{kind: reads, n: most} }

// answer is what a call says: whether Next has moved, or what is read.
type answer struct {
	moved bool
	text  string
}

// asking is what a queue and a slow one are asked alike.
type asking struct {
	put  func(int, string, bool) bool
	read func(int) string
}

// befall lets a befall what is asked.
func (k asking) befall(a act) answer {
	if a.kind == reads {
		return answer{text: k.read(a.n)}
	}
	return answer{moved: k.put(a.n, a.text, a.kind == ends)}
}

// marks are what a queue tells of itself.
type marks struct {
	next, window, ready int
	over                bool
}

func look(q *Queue) marks {
	return marks{q.Next(), q.Window(), q.Ready(), q.Over()}
}

func lookSlowly(s *slowQueue) marks {
	return marks{s.next, s.window(), s.ready(), s.over}
}

// told is a queue, what befell it so far, and what it should be behind that.
type told struct {
	queue *Queue
	slow  *slowQueue
	story []act
}

func begin(t *testing.T) *told {
	t.Helper()
	h := &told{queue: New(), slow: newSlow()}
	h.check(t)
	return h
}

// befall lets each of list befall the queue, and checks it at each: what the
// last one of them said.
func (h *told) befall(t *testing.T, list ...act) answer {
	t.Helper()
	var got answer
	for _, a := range list {
		h.story = append(h.story, a)
		got = asking{h.queue.Put, h.queue.Read}.befall(a)
		if want := (asking{h.slow.put, h.slow.read}).befall(a); got != want {
			t.Fatalf("%v: it says %v, not %v", brief(h.story), got, want)
		}
		h.check(t)
	}
	return got
}

// check holds what the queue tells against the slow one, and that to ask for it
// changes nothing.
func (h *told) check(t *testing.T) {
	t.Helper()
	want := lookSlowly(h.slow)
	for range 2 {
		if got := look(h.queue); got != want {
			t.Fatalf("behind %v: it is %v, not %v", brief(h.story), got, want)
		}
	}
}

// drain brings to light what waits in the queue behind gaps: they are filled,
// with n bytes, and all is read, and ended.
func (h *told) drain(t *testing.T, n int) {
	t.Helper()
	h.befall(t, put(h.queue.Next(), strings.Repeat("#", n)), read(math.MaxInt))
	h.befall(t, end(h.queue.Next(), ""), put(h.queue.Next(), "x"))
}

// brief is the end of a story, short enough to be told.
func brief(story []act) []act {
	short := slices.Clone(story[max(0, len(story)-20):])
	for i := range short {
		short[i].text = short[i].text[:min(20, len(short[i].text))]
	}
	return short
}

// story is a queue's, from its beginning on.
func story(list ...act) []act {
	return list
}

// behind are stories that begin alike.
func behind(list ...act) func(...act) []act {
	return func(more ...act) []act {
		return append(slices.Clone(list), more...)
	}
}

// markCase is a story by its name, what the last call of it says, and what the
// queue is behind it. They are the chapter's, worked out by hand.
type markCase struct {
	name  string
	story []act
	says  answer
	want  marks
}

func checkMarks(t *testing.T, cases []markCase) {
	t.Helper()
	for _, c := range cases {
		t.Run(c.name, func(t *testing.T) {
			h := begin(t)
			if got := h.befall(t, c.story...); got != c.says {
				t.Errorf("it says %v, not %v", got, c.says)
			}
			if got := look(h.queue); got != c.want {
				t.Errorf("it is %v, not %v", got, c.want)
			}
			h.drain(t, 4096)
		})
	}
}

// What a call says that puts.
var (
	moves = answer{moved: true}
	stays = answer{}
)

// tells is what a call says that reads.
func tells(text string) answer {
	return answer{text: text}
}

// long is a text of n bytes, which are all of 0 to 255 in turn.
func long(n int) string {
	list := make([]byte, n)
	for i := range list {
		list[i] = byte(i + i>>8)
	}
	return string(list)
}

// fresh is what a new queue tells.
var fresh = marks{1, 2048, 0, false}

func TestNew(t *testing.T) {
	q := New()
	if q == nil {
		t.Fatal("there is none")
	}
	if got := look(q); got != fresh {
		t.Error(got)
	}
	if s := q.Read(9); s != "" {
		t.Error(s)
	}
}

func TestReadyAndWindow(t *testing.T) {
	hello := behind(put(1, "hello"))
	checkMarks(t, []markCase{
		{"a byte", story(put(1, "a")), moves, marks{2, 2047, 1, false}},
		{"bytes", hello(), moves, marks{6, 2043, 5, false}},
		{"one behind the other", hello(put(6, "you")), moves, marks{9, 2040, 8, false}},
		{"behind a gap", story(put(3, "c")), stays, fresh},
		{"behind bytes and a gap", hello(put(8, "you")), stays, marks{6, 2043, 5, false}},
		{"the gap is filled in part", hello(put(8, "you"), put(6, ",")), moves, marks{7, 2042, 6, false}},
		{"the gap is filled", hello(put(8, "you"), put(6, ", ")), moves, marks{11, 2038, 10, false}},
		{"some are read", hello(read(2)), tells("he"), marks{6, 2045, 3, false}},
		{"all are read", hello(read(5)), tells("hello"), marks{6, 2048, 0, false}},
		{"those ahead of a gap are read", hello(put(8, "you"), read(9)), tells("hello"), marks{6, 2048, 0, false}},
		{"more come behind those that are read", hello(read(5), put(6, "you")), moves, marks{9, 2045, 3, false}},
		{"more come behind some that are read", hello(read(4), put(6, "you")), moves, marks{9, 2044, 4, false}},
		{"FIN alone", story(end(1, "")), moves, marks{2, 2048, 0, true}},
		{"bytes and FIN", story(end(1, "hello")), moves, marks{7, 2043, 5, true}},
		{"some are read ahead of FIN", story(end(1, "hello"), read(2)), tells("he"), marks{7, 2045, 3, true}},
		{"all are read ahead of FIN", story(end(1, "hello"), read(5)), tells("hello"), marks{7, 2048, 0, true}},
		{"FIN behind what is read", hello(read(5), end(6, "")), moves, marks{7, 2048, 0, true}},
		{"FIN behind what is read in part", hello(read(3), end(6, "")), moves, marks{7, 2046, 2, true}},
		{"a byte less than full", story(put(1, long(2047))), moves, marks{2048, 1, 2047, false}},
		{"full", story(put(1, long(2048))), moves, marks{2049, 0, 2048, false}},
		{"full, and FIN", story(end(1, long(2048))), moves, marks{2050, 0, 2048, true}},
	})
}

// While nothing is read, and Next has not gone over FIN, the place behind the
// last one that may come is the same.
func TestEdgeStays(t *testing.T) {
	for _, far := range []int{0, 1, 700, 2047, 2048, 2049, 5000} {
		h := begin(t)
		h.befall(t, put(1, long(2048)[:far%2048]), read(far%2048))
		edge := h.queue.Next() + h.queue.Window()
		if edge != 2049+far%2048 {
			t.Errorf("behind %d that are read it is %d", far, edge)
		}
		for _, n := range []int{0, 1, 2, 5, 900, 901, 2046, 2047, 2048, 2060} {
			h.befall(t, put(h.queue.Next()+n%3, long(n)), end(edge, ""))
			if got := h.queue.Next() + h.queue.Window(); got != edge && !h.queue.Over() {
				t.Errorf("behind %v it is %d, not %d", brief(h.story), got, edge)
			}
		}
		if got := look(h.queue); got != (marks{edge + 1, 0, 2048, true}) {
			t.Errorf("behind FIN it is %v", got)
		}
	}
}

func TestReadOfSoMany(t *testing.T) {
	hello := behind(put(1, "hello"))
	at := marks{6, 2043, 5, false}
	none := marks{6, 2048, 0, false}
	checkMarks(t, []markCase{
		{"the least int", hello(read(math.MinInt)), tells(""), at},
		{"-2^32", hello(read(-1 << 32)), tells(""), at},
		{"-1", hello(read(-1)), tells(""), at},
		{"0", hello(read(0)), tells(""), at},
		{"1", hello(read(1)), tells("h"), marks{6, 2044, 4, false}},
		{"one less", hello(read(4)), tells("hell"), marks{6, 2047, 1, false}},
		{"just as many", hello(read(5)), tells("hello"), none},
		{"one more", hello(read(6)), tells("hello"), none},
		{"more than there may be", hello(read(5000)), tells("hello"), none},
		{"2^32", hello(read(1 << 32)), tells("hello"), none},
		{"the greatest int", hello(read(math.MaxInt)), tells("hello"), none},
		{"one behind the other", hello(read(2), read(2)), tells("ll"), marks{6, 2047, 1, false}},
		{"behind one that was below 0", hello(read(-3), read(2)), tells("he"), marks{6, 2045, 3, false}},
		{"behind one that was 0", hello(read(0), read(9)), tells("hello"), none},
		{"all are read", hello(read(5), read(5)), tells(""), none},
		{"all are read, and the greatest int", hello(read(5), read(math.MaxInt)), tells(""), none},
		{"more came since", hello(read(3), put(6, "you"), read(9)), tells("loyou"), marks{9, 2048, 0, false}},
		{"with FIN", story(end(1, "hello"), read(9)), tells("hello"), marks{7, 2048, 0, true}},
		{"with FIN, one by one", story(end(1, "hello"), read(4), read(1)), tells("o"), marks{7, 2048, 0, true}},
		{"with FIN, all are read", story(end(1, "hello"), read(5), read(5)), tells(""), marks{7, 2048, 0, true}},
		{"all of a full one", story(put(1, long(2048)), read(2048)), tells(long(2048)), marks{2049, 2048, 0, false}},
		{"round the ring", story(put(1, long(2048)), read(2045), put(2049, "you"), read(5)),
			tells(long(2048)[2045:] + "yo"), marks{2052, 2047, 1, false}},
	})
}

func TestReadOfNothing(t *testing.T) {
	for _, n := range []int{math.MinInt, -1, 0, 1, 2048, math.MaxInt} {
		checkMarks(t, []markCase{
			{"a new one", story(read(n)), tells(""), fresh},
			{"bytes wait behind a gap", story(put(2, "bcd"), read(n)), tells(""), fresh},
			{"FIN waits behind a gap", story(end(3, ""), read(n)), tells(""), fresh},
			{"FIN came alone", story(end(1, ""), read(n)), tells(""), marks{2, 2048, 0, true}},
		})
	}
}

func TestFull(t *testing.T) {
	full := behind(put(1, long(2048)))
	at := marks{2049, 0, 2048, false}
	checkMarks(t, []markCase{
		{"a byte more", full(put(2049, "x")), stays, at},
		{"a byte behind a gap", full(put(2050, "x")), stays, at},
		{"what is there, and a byte more", full(put(1, long(2049))), stays, at},
		{"the empty body", full(put(2049, "")), stays, at},
		{"a byte is read", full(read(1)), tells("\x00"), marks{2049, 1, 2047, false}},
		{"it didn't wait", full(put(2049, "xyz"), read(2)), tells("\x00\x01"), marks{2049, 2, 2046, false}},
		{"a byte is read, and one comes", full(read(1), put(2049, "x")), moves, marks{2050, 0, 2048, false}},
		{"a byte is read, and two come", full(read(1), put(2049, "xy")), moves, marks{2050, 0, 2048, false}},
		{"half is read, and less comes", full(read(1024), put(2049, long(1000))), moves, marks{3049, 24, 2024, false}},
		{"half is read, and as much comes", full(read(1024), put(2049, long(1024))), moves, marks{3073, 0, 2048, false}},
		{"half is read, and more comes", full(read(1024), put(2049, long(2048))), moves, marks{3073, 0, 2048, false}},
		{"all is read, and as much comes", full(read(2048), put(2049, long(2048))), moves, marks{4097, 0, 2048, false}},
		{"all is read, and more comes", full(read(2048), put(2049, long(3000))), moves, marks{4097, 0, 2048, false}},
		{"what waits fills it", full(read(9), put(2050, "bcdefghi"), put(2049, "a")), moves, marks{2058, 0, 2048, false}},
		{"and is read", full(read(2040), put(2050, "bc"), put(2049, "a"), read(99)),
			tells(long(2048)[2040:] + "abc"), marks{2052, 2048, 0, false}},
		{"FIN", full(end(2049, "")), moves, marks{2050, 0, 2048, true}},
		{"FIN with a byte more", full(end(2049, "x")), stays, at},
		{"FIN a place behind", full(end(2050, "")), stays, at},
	})
}

func TestOver(t *testing.T) {
	waits := behind(end(3, "cd"))
	checkMarks(t, []markCase{
		{"bytes", story(put(1, "a")), moves, marks{2, 2047, 1, false}},
		{"a gap ahead of bytes and FIN", waits(), stays, fresh},
		{"a part of the gap is filled", waits(put(1, "a")), moves, marks{2, 2047, 1, false}},
		{"another part of the gap is filled", waits(put(2, "b")), stays, fresh},
		{"the gap is filled", waits(put(1, "ab")), moves, marks{6, 2044, 4, true}},
		{"the gap is filled one by one", waits(put(2, "b"), put(1, "a")), moves, marks{6, 2044, 4, true}},
		{"some are read", waits(put(1, "ab"), read(3)), tells("abc"), marks{6, 2047, 1, true}},
		{"all are read", waits(put(1, "ab"), read(4)), tells("abcd"), marks{6, 2048, 0, true}},
		{"a gap ahead of FIN alone", story(end(2, "")), stays, fresh},
		{"that gap is filled", story(end(2, ""), put(1, "a")), moves, marks{3, 2047, 1, true}},
		{"bytes, a gap, and FIN", story(put(1, "ab"), end(4, "")), stays, marks{3, 2046, 2, false}},
		{"bytes, and FIN behind them", story(put(1, "ab"), end(3, "")), moves, marks{4, 2046, 2, true}},
		{"all that comes is read ahead of FIN", waits(put(1, "a"), read(9)), tells("a"), marks{2, 2048, 0, false}},
		{"and the rest comes", waits(put(1, "a"), read(9), put(2, "b")), moves, marks{6, 2045, 3, true}},
	})
}

func TestPlaces(t *testing.T) {
	far := []int{math.MinInt, math.MinInt + 3, -1<<60 - 1, -1 << 60, -1<<60 + 1, -1 << 32, -1<<32 + 1, -5000,
		2049, 5000, 1<<32 + 1, 1<<60 - 1, 1 << 60, 1<<60 + 1, math.MaxInt - 3, math.MaxInt - 2, math.MaxInt}
	for _, at := range far {
		checkMarks(t, []markCase{
			{"a body far away", story(put(at, "abc")), stays, fresh},
			{"with FIN", story(end(at, "abc")), stays, fresh},
			{"the empty body", story(put(at, "")), stays, fresh},
			{"behind bytes", story(put(1, "ab"), put(at, "abc")), stays, marks{3, 2046, 2, false}},
			{"with FIN behind bytes", story(put(1, "ab"), end(at, "abc")), stays, marks{3, 2046, 2, false}},
			{"with FIN that is known", story(end(4, ""), put(at, "abc")), stays, fresh},
		})
		if at != 2049 {
			checkMarks(t, []markCase{{"FIN alone", story(end(at, "")), stays, fresh}})
		}
	}
}

func TestPlacesNearby(t *testing.T) {
	checkMarks(t, []markCase{
		{"-3", story(put(-3, "wxyz")), stays, fresh},
		{"-2", story(put(-2, "xyza")), moves, marks{2, 2047, 1, false}},
		{"-2 read", story(put(-2, "xyza"), read(9)), tells("a"), marks{2, 2048, 0, false}},
		{"-1", story(put(-1, "xya"), read(9)), tells("a"), marks{2, 2048, 0, false}},
		{"0", story(put(0, "xabc")), moves, marks{4, 2045, 3, false}},
		{"0 read", story(put(0, "xabc"), read(9)), tells("abc"), marks{4, 2048, 0, false}},
		{"0 alone", story(put(0, "x")), stays, fresh},
		{"1", story(put(1, "a"), read(9)), tells("a"), marks{2, 2048, 0, false}},
		{"2", story(put(2, "b")), stays, fresh},
		{"FIN at -1", story(end(-2, "x")), stays, fresh},
		{"FIN at 0", story(end(-1, "x")), stays, fresh},
		{"FIN alone at 0", story(end(0, "")), stays, fresh},
		{"FIN at 1", story(end(-1, "xy")), moves, marks{2, 2048, 0, true}},
		{"FIN at 1 behind place 0", story(end(0, "x")), moves, marks{2, 2048, 0, true}},
		{"FIN alone at 1", story(end(1, "")), moves, marks{2, 2048, 0, true}},
		{"FIN at 2", story(end(-1, "xya")), moves, marks{3, 2047, 1, true}},
		{"far below, and long", story(put(-50000, long(50001))), stays, fresh},
		{"far below, and a byte longer", story(put(-50000, long(50001)+"a"), read(9)), tells("a"), marks{2, 2048, 0, false}},
		{"far below, and FIN", story(end(-50000, long(50001))), moves, marks{2, 2048, 0, true}},
		{"far below, and beyond", story(put(-50000, long(100000))), moves, marks{2049, 0, 2048, false}},
	})
}

func TestBodyAtNext(t *testing.T) {
	hello := behind(put(1, "hello"))
	at := marks{6, 2043, 5, false}
	checkMarks(t, []markCase{
		{"the same", hello(put(1, "hello")), stays, at},
		{"ends just there", hello(put(3, "LLO")), stays, at},
		{"ends ahead of it", hello(put(1, "HELL")), stays, at},
		{"ends a place past it", hello(put(1, "HELLO!")), moves, marks{7, 2042, 6, false}},
		{"a place past it, and read", hello(put(1, "HELLO!"), read(9)), tells("hello!"), marks{7, 2048, 0, false}},
		{"ends further past it", hello(put(4, "LO you")), moves, marks{10, 2039, 9, false}},
		{"further past it, and read", hello(put(4, "LO you"), read(9)), tells("hello you"), marks{10, 2048, 0, false}},
		{"begins a place ahead of it", hello(put(5, "O!")), moves, marks{7, 2042, 6, false}},
		{"begins just there", hello(put(6, "!")), moves, marks{7, 2042, 6, false}},
		{"begins a place behind it", hello(put(7, "!")), stays, at},
		{"what is read comes again", hello(read(5), put(1, "hello")), stays, marks{6, 2048, 0, false}},
		{"what is read comes again, with more", hello(read(5), put(1, "HELLO!"), read(9)), tells("!"), marks{7, 2048, 0, false}},
		{"what is read in part comes again", hello(read(2), put(1, "HELLO!"), read(9)), tells("llo!"), marks{7, 2048, 0, false}},
	})
}

func TestBodyAtEdge(t *testing.T) {
	fill := put(1, long(2045))
	five := behind(put(1, "hello"), read(5))
	checkMarks(t, []markCase{
		{"ends just there", story(put(2046, "xyz"), fill), moves, marks{2049, 0, 2048, false}},
		{"ends just there, and is read", story(put(2046, "xyz"), fill, read(2045), read(9)), tells("xyz"), marks{2049, 2048, 0, false}},
		{"ends a place past it", story(put(2046, "xyz-"), fill), moves, marks{2049, 0, 2048, false}},
		{"the one past it isn't kept", story(put(2046, "xyz-"), fill, read(9999), put(2050, "b")), stays, marks{2049, 2048, 0, false}},
		{"a byte just ahead of it", story(put(2048, "x"), put(1, long(2047))), moves, marks{2049, 0, 2048, false}},
		{"begins there", story(put(2049, "x"), put(1, long(2048))), moves, marks{2049, 0, 2048, false}},
		{"what begins there isn't kept", story(put(2049, "x"), put(1, long(2048)), read(9)), tells(long(9)), marks{2049, 9, 2039, false}},
		{"begins behind it", story(put(2050, "x"), put(1, long(2048)), read(9), put(2049, "a")), moves, marks{2050, 8, 2040, false}},
		{"is further on behind Read", five(put(2053, "x"), put(6, long(2047))), moves, marks{2054, 0, 2048, false}},
		{"a place past that", five(put(2054, "x"), put(6, long(2047))), moves, marks{2053, 1, 2047, false}},
		{"goes past that", five(put(2053, "xy"), put(6, long(2047)), read(9)), tells(long(9)), marks{2054, 9, 2039, false}},
		{"is not further on by a gap", story(put(2, "bcd"), put(2049, "x"), put(1, long(2048))), moves, marks{2049, 0, 2048, false}},
	})
}

func TestEmptyBody(t *testing.T) {
	hello := behind(put(1, "hello"))
	at := marks{6, 2043, 5, false}
	for _, place := range []int{-5, 0, 1, 5, 6, 7, 2048, 2049, 2050} {
		checkMarks(t, []markCase{
			{"a new one", story(put(place, "")), stays, fresh},
			{"behind bytes", hello(put(place, "")), stays, at},
			{"with bytes that wait", hello(put(8, "you"), put(place, "")), stays, at},
			{"with FIN that waits", hello(end(8, ""), put(place, "")), stays, at},
			{"once it is over", hello(end(6, ""), put(place, "")), stays, marks{7, 2043, 5, true}},
		})
		if place != 6 {
			checkMarks(t, []markCase{{"with FIN", hello(end(place, "")), stays, at}})
		}
	}
	checkMarks(t, []markCase{
		{"with FIN at Next", hello(end(6, "")), moves, marks{7, 2043, 5, true}},
		{"with FIN behind a gap, which is filled", hello(end(8, ""), put(6, "ab")), moves, marks{9, 2041, 7, true}},
	})
}

func TestOverlaps(t *testing.T) {
	checkMarks(t, []markCase{
		{"the same place", story(put(2, "b"), put(2, "X"), put(1, "a"), read(9)), tells("ab"), marks{3, 2048, 0, false}},
		{"around it", story(put(3, "cd"), put(1, "ABCDE"), read(9)), tells("ABcdE"), marks{6, 2048, 0, false}},
		{"around several", story(put(2, "b"), put(4, "d"), put(1, "ABCDE"), read(9)), tells("AbCdE"), marks{6, 2048, 0, false}},
		{"within it", story(put(2, "bcde"), put(3, "XY"), put(1, "a"), read(9)), tells("abcde"), marks{6, 2048, 0, false}},
		{"its end", story(put(2, "bcd"), put(4, "DEF"), put(1, "a"), read(9)), tells("abcdEF"), marks{7, 2048, 0, false}},
		{"its beginning", story(put(4, "def"), put(2, "BCD"), put(1, "a"), read(9)), tells("aBCdef"), marks{7, 2048, 0, false}},
		{"between two", story(put(2, "bc"), put(6, "fg"), put(3, "CDEF"), put(1, "a"), read(9)), tells("abcDEfg"), marks{8, 2048, 0, false}},
		{"three times", story(put(2, "b"), put(2, "BC"), put(2, "XYZ"), put(1, "12345"), read(9)), tells("1bCZ5"), marks{6, 2048, 0, false}},
		{"from Next on", story(put(1, "ab"), put(1, "XYZ"), read(9)), tells("abZ"), marks{4, 2048, 0, false}},
		{"with FIN", story(put(2, "b"), end(1, "XYZ"), read(9)), tells("XbZ"), marks{5, 2048, 0, true}},
		{"of a byte 0", story(put(2, "\x00"), put(1, "xyz"), read(9)), tells("x\x00z"), marks{4, 2048, 0, false}},
	})
}

// All of six pieces, of which some lie over others, come in each order.
func TestEachOrder(t *testing.T) {
	all := "abcdefghijkl"
	from := [][2]int{{1, 4}, {3, 6}, {6, 7}, {7, 10}, {9, 11}, {11, 13}}
	var list []act
	for i, f := range from {
		a := put(f[0], all[f[0]-1:f[1]-1])
		if i == len(from)-1 {
			a.kind = ends
		}
		list = append(list, a)
	}
	eachOrder(list, 0, func(order []act) {
		h := begin(t)
		h.befall(t, order...)
		if got := look(h.queue); got != (marks{14, 2036, 12, true}) {
			t.Fatalf("behind %v it is %v", order, got)
		}
		if got := h.befall(t, read(99)); got.text != all {
			t.Fatalf("behind %v there is %q", order, got.text)
		}
	})
}

// eachOrder hands over list in each order of those from at on.
func eachOrder(list []act, at int, take func([]act)) {
	if at == len(list) {
		take(slices.Clone(list))
		return
	}
	for i := at; i < len(list); i++ {
		list[at], list[i] = list[i], list[at]
		eachOrder(list, at+1, take)
		list[at], list[i] = list[i], list[at]
	}
}

func TestLongBody(t *testing.T) {
	all := long(100000)
	full := marks{2049, 0, 2048, false}
	checkMarks(t, []markCase{
		{"from 1 on", story(put(1, all)), moves, full},
		{"from 1 on, and read", story(put(1, all), read(9999)), tells(all[:2048]), marks{2049, 2048, 0, false}},
		{"once more", story(put(1, all), read(9999), put(1, all), read(9999)), tells(all[2048:4096]), marks{4097, 2048, 0, false}},
		{"with FIN", story(end(1, all)), moves, full},
		{"with FIN, which isn't known", story(end(1, all), read(1), put(2049, "x")), moves, marks{2050, 0, 2048, false}},
		{"behind a gap", story(put(1000, all)), stays, fresh},
		{"behind a gap, which is filled", story(put(1000, all), put(1, all[:999])), moves, full},
		{"around what is there", story(put(1000, "you"), put(1, all)), moves, full},
		{"with FIN that is known", story(end(1000, ""), put(1, all)), moves, marks{1001, 1049, 999, true}},
		{"behind FIN that is known", story(end(3, ""), put(4, all)), stays, fresh},
	})
}

func TestPlaceOfFin(t *testing.T) {
	hello := behind(put(1, "hello"))
	at := marks{6, 2043, 5, false}
	rest := put(6, long(2043))
	checkMarks(t, []markCase{
		{"below Next", hello(end(5, "")), stays, at},
		{"below Next, behind bytes", hello(end(1, "hell")), stays, at},
		{"far below Next", hello(end(1, "")), stays, at},
		{"below Next isn't known", hello(end(5, ""), put(6, "x")), moves, marks{7, 2042, 6, false}},
		{"below Next isn't known, nor in the way", hello(end(5, ""), end(6, "x")), moves, marks{8, 2042, 6, true}},
		{"at Next", hello(end(6, "")), moves, marks{7, 2043, 5, true}},
		{"at Next, behind bytes", hello(end(1, "HELLO")), moves, marks{7, 2043, 5, true}},
		{"a place behind Next", hello(end(7, "")), stays, at},
		{"a place behind Next, and the byte comes", hello(end(7, ""), put(6, "x")), moves, marks{8, 2042, 6, true}},
		{"a place behind Next, behind bytes", hello(end(1, "HELLO!")), moves, marks{8, 2042, 6, true}},
		{"at the edge", hello(end(2049, "")), stays, at},
		{"at the edge, and all comes", hello(end(2049, ""), rest), moves, marks{2050, 0, 2048, true}},
		{"at the edge, behind bytes", hello(end(2048, "x"), rest), moves, marks{2050, 0, 2048, true}},
		{"at the edge, with all", hello(end(6, long(2043))), moves, marks{2050, 0, 2048, true}},
		{"behind the edge", hello(end(2050, ""), rest), moves, marks{2049, 0, 2048, false}},
		{"behind the edge, behind bytes", hello(end(2048, "xy"), rest), moves, marks{2049, 0, 2048, false}},
		{"behind the edge, with all", hello(end(6, long(2044))), moves, marks{2049, 0, 2048, false}},
		{"behind the edge isn't known later", hello(end(2050, ""), rest, read(1), put(2049, "x")), moves, marks{2050, 0, 2048, false}},
		{"behind the edge isn't in the way", hello(end(2050, ""), end(7, ""), put(6, "!")), moves, marks{8, 2042, 6, true}},
		{"behind what was the edge", hello(read(2), end(2051, ""), put(6, long(2045))), moves, marks{2052, 0, 2048, true}},
		{"behind that too", hello(read(2), end(2052, ""), put(6, long(2045))), moves, marks{2051, 0, 2048, false}},
	})
}

func TestFinAmongBytes(t *testing.T) {
	waits := behind(put(5, "e"))
	checkMarks(t, []markCase{
		{"a byte lies at it", waits(end(5, ""), put(1, "abcd")), moves, marks{6, 2043, 5, false}},
		{"a byte lies behind it", waits(end(4, ""), put(1, "abcd")), moves, marks{6, 2043, 5, false}},
		{"a byte lies far behind it", story(put(2048, "x"), end(3, ""), put(1, "abcd")), moves, marks{5, 2044, 4, false}},
		{"a byte lies behind it, which is at Next", waits(end(1, "")), stays, fresh},
		{"a byte lies behind it, and bytes are with it", waits(end(1, "abc")), moves, marks{4, 2045, 3, false}},
		{"those are taken", waits(end(1, "abc"), put(4, "d"), read(9)), tells("abcde"), marks{6, 2048, 0, false}},
		{"a byte lies at it, and bytes are with it", waits(end(1, "abcd")), moves, marks{6, 2043, 5, false}},
		{"a byte lies just ahead of it", waits(end(6, ""), put(1, "abcd")), moves, marks{7, 2043, 5, true}},
		{"a byte lies just ahead, and bytes are with it", waits(end(1, "abcdX")), moves, marks{7, 2043, 5, true}},
		{"the byte came with FIN behind the edge", story(end(2048, "xy"), end(2048, ""), put(1, long(2047))), moves, marks{2049, 0, 2048, false}},
		{"the byte was not taken", story(put(2049, "x"), end(5, ""), put(1, "abcd")), moves, marks{6, 2044, 4, true}},
		{"the bytes were taken in part", story(put(2048, "xy"), end(2049, ""), put(1, long(2047))), moves, marks{2050, 0, 2048, true}},
		{"it isn't known afterwards", waits(end(5, ""), put(1, "abcd"), put(6, "f")), moves, marks{7, 2042, 6, false}},
		{"another one is, afterwards", waits(end(5, ""), end(6, ""), put(1, "abcd")), moves, marks{7, 2043, 5, true}},
	})
}

func TestFinThatIsKnown(t *testing.T) {
	waits := behind(end(4, ""))
	over := marks{5, 2045, 3, true}
	checkMarks(t, []markCase{
		{"once more", waits(end(4, ""), put(1, "abc")), moves, over},
		{"once more, ahead of it", waits(end(3, ""), put(1, "ab")), moves, marks{3, 2046, 2, false}},
		{"once more, at Next", waits(end(1, "")), stays, fresh},
		{"once more, behind it", waits(end(6, ""), put(1, "abcde")), moves, over},
		{"once more, with bytes beyond it", waits(end(1, "abcde")), moves, over},
		{"once more, with bytes ahead of it", waits(end(1, "ab")), moves, marks{3, 2046, 2, false}},
		{"a byte at it", waits(put(4, "x"), put(1, "abc")), moves, over},
		{"a byte at it isn't kept", waits(put(4, "x")), stays, fresh},
		{"a byte behind it", waits(put(5, "x"), put(1, "abc")), moves, over},
		{"bytes over it", waits(put(2, "bcde"), put(1, "a")), moves, over},
		{"bytes over it, and read", waits(put(2, "bcde"), put(1, "a"), read(9)), tells("abc"), marks{5, 2048, 0, true}},
		{"bytes from Next on over it", waits(put(1, "abcdef"), read(9)), tells("abc"), marks{5, 2048, 0, true}},
		{"bytes ahead of it", waits(put(2, "bc")), stays, fresh},
		{"bytes up to it", waits(put(1, "abc")), moves, over},
	})
}

func TestFinWithSomeOfItsBytes(t *testing.T) {
	checkMarks(t, []markCase{
		{"some are there", story(put(1, "ab"), end(1, "XYcd"), read(9)), tells("abcd"), marks{6, 2048, 0, true}},
		{"some wait", story(put(3, "c"), end(2, "XYd"), put(1, "a"), read(9)), tells("aXcd"), marks{6, 2048, 0, true}},
		{"all are there", story(put(1, "ab"), end(1, "XY")), moves, marks{4, 2046, 2, true}},
		{"all wait", story(put(2, "bc"), end(2, "XY"), put(1, "a"), read(9)), tells("abc"), marks{5, 2048, 0, true}},
		{"all are read", story(put(1, "ab"), read(9), end(1, "XY")), moves, marks{4, 2048, 0, true}},
		{"some are below 1", story(end(-1, "XYab"), read(9)), tells("ab"), marks{4, 2048, 0, true}},
		{"some are behind the edge", story(end(2047, "xyz"), put(1, long(2046))), moves, marks{2049, 0, 2048, false}},
		{"all are behind the edge", story(end(2049, "xyz"), put(1, long(2048))), moves, marks{2049, 0, 2048, false}},
		{"some are behind FIN", story(end(3, ""), end(2, "bcd"), put(1, "a"), read(9)), tells("ab"), marks{4, 2048, 0, true}},
		{"others lie behind", story(put(4, "d"), end(2, "b"), put(1, "a"), read(9)), tells("ab"), marks{3, 2048, 0, false}},
	})
}

func TestGapIsFilled(t *testing.T) {
	waits := behind(put(3, "cd"), put(6, "fg"), put(9, "i"))
	checkMarks(t, []markCase{
		{"up to the next one", waits(put(1, "ab")), moves, marks{5, 2044, 4, false}},
		{"two", waits(put(5, "e"), put(1, "ab")), moves, marks{8, 2041, 7, false}},
		{"all", waits(put(8, "h"), put(5, "e"), put(1, "ab")), moves, marks{10, 2039, 9, false}},
		{"all at once", waits(put(1, "ABCDEFGH"), read(99)), tells("ABcdEfgHi"), marks{10, 2048, 0, false}},
		{"none at Next", waits(put(8, "h"), put(5, "e")), stays, fresh},
		{"and FIN, once", waits(end(10, ""), put(1, "abcdefgh")), moves, marks{11, 2039, 9, true}},
		{"and FIN, not yet", waits(end(11, ""), put(1, "abcdefgh")), moves, marks{10, 2039, 9, false}},
		{"and FIN behind that", waits(end(11, ""), put(1, "abcdefgh"), put(10, "j")), moves, marks{12, 2038, 10, true}},
	})
}

func TestOnceOver(t *testing.T) {
	checks := func(list []act, at marks) {
		h := begin(t)
		h.befall(t, list...)
		was := *h.queue
		for place := -1; place < 9; place++ {
			h.befall(t, put(place, ""), put(place, "xyz"), end(place, ""), end(place, "xyz"), put(place, long(3000)))
		}
		for _, place := range []int{math.MinInt, -1 << 60, 2048, 2049, 2050, 1 << 60, math.MaxInt} {
			h.befall(t, put(place, "xyz"), end(place, "xyz"), end(place, ""))
		}
		if got := look(h.queue); got != at || *h.queue != was {
			t.Errorf("behind %v it is %v", list, got)
		}
	}
	checks(story(end(1, "")), marks{2, 2048, 0, true})
	checks(story(end(1, "ab")), marks{4, 2046, 2, true})
	checks(story(end(1, "ab"), read(1)), marks{4, 2047, 1, true})
	checks(story(end(1, "ab"), read(2)), marks{4, 2048, 0, true})
	checks(story(end(2, "b"), put(1, "a")), marks{4, 2046, 2, true})
	checks(story(end(1, long(2048))), marks{2050, 0, 2048, true})
	checks(story(end(1, long(2048)), read(2048)), marks{2050, 2048, 0, true})
}

// A Put of which nothing is taken leaves the queue as it was, also what waits in
// it.
func TestNotTaken(t *testing.T) {
	checks := func(list []act, nothing ...act) {
		for _, a := range nothing {
			h := begin(t)
			h.befall(t, list...)
			was := *h.queue
			if got := h.befall(t, a); got != stays || *h.queue != was {
				t.Errorf("behind %v: %v takes something", brief(list), brief(story(a)))
			}
			h.drain(t, 4096)
		}
	}
	far := story(put(-1<<60, "xyz"), end(-1<<60, "xyz"), put(1<<60, "xyz"), end(1<<60, ""), put(-1<<60-1, "xyz"), end(-1<<60-1, ""),
		put(1<<60+1, "xyz"), end(1<<60+1, ""), put(math.MinInt, "xyz"), end(math.MinInt, ""), put(math.MaxInt, "xyz"),
		end(math.MaxInt, "xyz"), end(math.MaxInt, ""), put(2049, "xyz"), end(2050, ""), end(2049, "x"), put(5000, long(5000)))
	checks(story(), append(far, put(1, ""), put(0, "x"), put(-2, "xyz"), end(0, ""), end(-1, "x"), put(3, ""))...)
	checks(story(put(1, "ab")), append(far, put(3, ""), put(1, "xy"), put(0, "xyz"), end(2, ""), end(1, "x"), end(1, ""))...)
	checks(story(put(1, "ab"), put(5, "e")), append(far, put(5, "x"), end(5, ""), end(4, ""), end(3, ""), end(2, ""), end(1, "xy"))...)
	checks(story(end(5, "")), append(far, put(5, "x"), put(6, "xyz"), end(5, ""), end(6, ""), end(4, ""), end(1, ""))...)
	checks(story(end(4, "de")), append(far, put(4, "x"), put(5, "xyz"), end(5, ""), end(4, "xyz"), end(4, "xy"))...)
	checks(story(put(1, long(2048))), append(far, put(1, long(4096)), end(1, long(4096)), end(1, long(2047)), end(2048, ""))...)
}

// All bytes come out as they went in, at each place of the ring.
func TestEachByteAtEachPlace(t *testing.T) {
	all := strings.Repeat(long(257*256), 9)
	q := New()
	for from := 0; from < len(all); from += 2048 {
		part := all[from:min(from+2048, len(all))]
		if !q.Put(from+1, part, false) {
			t.Fatalf("at %d nothing moved", from+1)
		}
		if got := q.Read(2048); got != part {
			t.Fatalf("at %d there are other bytes", from+1)
		}
	}
}

// Much more than there is ever room for goes through a queue, in pieces that are
// lost, doubled and overtaken, and comes out as it was.
func TestLongText(t *testing.T) {
	all := strings.Repeat(long(5000), 20)
	for seed := range 3 {
		l := lot(2463534242 + seed)
		h := begin(t)
		got := ""
		for i := 0; i < 100000 && !(h.queue.Over() && h.queue.Ready() == 0); i++ {
			at := min(max(0, h.queue.Next()-1+l.draw(2600)*l.draw(2)-100*l.draw(2)), len(all))
			to := min(at+l.draw(1500), len(all))
			a := put(at+1, all[at:to])
			if to == len(all) {
				a.kind = ends
			}
			h.befall(t, a)
			got += h.befall(t, read(l.draw(1200)-100)).text
		}
		if got != all || !h.queue.Over() {
			t.Errorf("%d bytes of %d come out, or other ones", len(got), len(all))
		}
	}
}

// What a queue answered stays as it is, and what it was handed too, whatever
// becomes of the queue.
func TestAnswersStay(t *testing.T) {
	q := New()
	text := strings.Clone(long(2048))
	q.Put(1, text, false)
	a, b := q.Read(700), q.Read(1348)
	q.Put(2049, strings.Repeat("y", 2048), false)
	c := q.Read(2048)
	q.Put(4097, strings.Repeat("z", 2048), true)
	if a != long(2048)[:700] || b != long(2048)[700:] || c != strings.Repeat("y", 2048) {
		t.Error("they were changed")
	}
	if text != long(2048) {
		t.Error("what was put was changed")
	}
}

func TestTwoQueues(t *testing.T) {
	list := []*told{begin(t), begin(t), begin(t)}
	l := lot(2463534242)
	for i := range 3000 {
		h := list[i*i%11%3]
		if i%300 == 299 {
			list[l.draw(3)] = begin(t)
		}
		h.befall(t, l.act(h))
		for _, other := range list {
			other.check(t)
		}
	}
}

// near are acts around places from base on, of which base is Next or ahead of it.
func near(base int) []act {
	at := func(n int) int { return base + n }
	return story(put(at(0), "a"), put(at(0), "bcd"), put(at(1), "e"), put(at(1), "fg"), put(at(2), "hi"), put(at(3), "j"),
		put(at(-1), "kl"), put(at(1), ""), end(at(0), ""), end(at(0), "m"), end(at(1), ""), end(at(1), "no"), end(at(2), ""),
		end(at(2), "p"), end(at(4), ""), read(1), read(9))
}

// All stories of a few acts around Next: where its places lie in the ring one
// behind the other, where they lie round it, and where Window ends among them.
func TestAllShortStories(t *testing.T) {
	begins := [][]act{
		story(),
		story(put(1, long(2046)), read(2046)),
		story(put(1, long(2046)), read(2045)),
		story(put(1, long(2046))),
		story(put(1, long(2048)), read(1)),
		story(put(1, long(2048)), read(2047), put(2049, long(2045))),
	}
	for i, list := range begins {
		many := 3
		if i == 0 {
			many = 4
		}
		eachStory(t, list, many)
	}
}

// eachStory tells all stories of so many acts behind list.
func eachStory(t *testing.T, list []act, many int) {
	t.Helper()
	h := begin(t)
	h.befall(t, list...)
	acts := near(h.queue.Next())
	var tell func(h *told, left int)
	tell = func(h *told, left int) {
		if left == 0 {
			h.drain(t, 9)
			return
		}
		for _, a := range acts {
			other := h.twin()
			other.befall(t, a)
			tell(other, left-1)
		}
	}
	tell(h, many)
}

// twin is another one that is just as h.
func (h *told) twin() *told {
	queue, slow := *h.queue, *h.slow
	slow.places = slices.Clone(slow.places)
	return &told{queue: &queue, slow: &slow, story: slices.Clone(h.story)}
}

// lot draws the same numbers at each run.
type lot uint64

func (l *lot) draw(n int) int {
	*l ^= *l << 13
	*l ^= *l >> 7
	*l ^= *l << 17
	return int(uint64(*l) % uint64(n))
}

// act draws what befalls h, mostly around the places where it is.
func (l *lot) act(h *told) act {
	q := h.queue
	edge := q.Next() + q.Window()
	switch l.draw(12) {
	case 0, 1:
		return put(q.Next(), l.text())
	case 2, 3, 4:
		return put(q.Next()+l.draw(2200)-100, l.text())
	case 5:
		return put(edge-l.draw(200)+10, l.text())
	case 6:
		return l.wrong()
	case 7:
		return l.seldom(end(q.Next()+l.draw(2200)-100, l.text()))
	case 8:
		return l.seldom(end(edge-l.draw(5)+2, ""))
	}
	return read(l.draw(900) - 50)
}

// seldom is a, or mostly a Read.
func (l *lot) seldom(a act) act {
	if l.draw(8) == 0 {
		return a
	}
	return read(l.draw(20) - 3)
}

// text draws one, seldom a long one; what it has at a place hangs on the draw.
func (l *lot) text() string {
	n := l.draw(100)
	if l.draw(6) == 0 {
		n = l.draw(3000)
	}
	return long(5000)[l.draw(1000):][:n]
}

// wrong draws what is far from all places.
func (l *lot) wrong() act {
	far := []int{math.MinInt, -1<<60 - 1, -1 << 60, -1 << 32, -1, 0, 1, 1 << 32, 1 << 60, 1<<60 + 1, math.MaxInt}
	at := far[l.draw(len(far))]
	switch l.draw(3) {
	case 0:
		return read(at)
	case 1:
		return l.seldom(end(at, l.text()))
	}
	return put(at, l.text())
}

func TestLongStories(t *testing.T) {
	l := lot(88172645463325252)
	for range 200 {
		h := begin(t)
		for range 1 + l.draw(300) {
			h.befall(t, l.act(h))
		}
		h.drain(t, 4096)
	}
}
