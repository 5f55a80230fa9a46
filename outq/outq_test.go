package outq

import (
	"math"
	"slices"
	"strings"
	"testing"

	"packetboat/api"
)

// What may lie at a place of a slow queue, beside a byte.
const (
	syn = -1
	fin = 256
)

// slowQueue has each place it ever had, from 0 on.
type slowQueue struct {
	places         []int
	una, cur, sent int
}

func newSlow() *slowQueue {
	return &slowQueue{places: []int{syn}}
}

func (s *slowQueue) closed() bool {
	return s.places[len(s.places)-1] == fin
}

// room counts the bytes that aren't acknowledged one by one.
func (s *slowQueue) room() int {
	n := 2048
	for _, x := range s.places[s.una:] {
		if x == fin {
			return 0
		}
		if x != syn {
			n--
		}
	}
	if s.closed() {
		return 0
	}
	return n
}

func (s *slowQueue) write(text string) int {
	n := 0
	room := s.room()
	for n < len(text) && n < room {
		s.places = append(s.places, int(text[n]))
		n++
	}
	return n
}

func (s *slowQueue) close() {
	if !s.closed() {
		s.places = append(s.places, fin)
	}
}

// piece gathers what goes out from a place on, place by place; and the place
// behind it.
func (s *slowQueue) piece(from, limit, mss int) (api.Piece, int, bool) {
	if mss < 1 || from >= limit || from >= len(s.places) {
		return api.Piece{}, from, false
	}
	if s.places[from] == syn {
		return api.Piece{Syn: true}, 1, true
	}
	p := api.Piece{At: from}
	at := from
	for at < limit && at < len(s.places) && !p.Fin {
		if s.places[at] == fin {
			p.Fin = true
		} else if len(p.Body) == mss {
			break
		} else {
			p.Body += string([]byte{byte(s.places[at])})
		}
		at++
	}
	return p, at, true
}

func (s *slowQueue) next(limit, mss int) (api.Piece, bool) {
	p, behind, is := s.piece(s.cur, limit, mss)
	s.cur = behind
	if s.cur > s.sent {
		s.sent = s.cur
	}
	return p, is
}

func (s *slowQueue) first(mss int) (api.Piece, bool) {
	p, _, is := s.piece(s.una, s.sent, mss)
	return p, is
}

func (s *slowQueue) ack(at int) int {
	n := 0
	for at <= s.sent && s.una < at {
		if s.cur == s.una {
			s.cur++
		}
		s.una++
		n++
	}
	return n
}

// Kinds of what befalls a queue.
const (
	writes = iota
	closes
	nexts
	backs
	firsts
	acks
)

// act is what befalls a queue: a text, a limit or a place, and an mss.
type act struct {
	kind int
	text string
	n    int
	mss  int
}

func write(text string) act   { return act{kind: writes, text: text} }
func next(limit, mss int) act { return act{kind: nexts, n: limit, mss: mss} }
func first(mss int) act       { return act{kind: firsts, mss: mss} }
func ack(at int) act          { return act{kind: acks, n: at} }

var (
	shut = act{kind: closes}
	back = act{kind: backs}
)

// answer is what a call says: a number, or a piece.
type answer struct {
	n     int
	piece api.Piece
	is    bool
}

// asking is what a queue and a slow one are asked alike.
type asking struct {
	write func(string) int
	close func()
	next  func(int, int) (api.Piece, bool)
	back  func()
	first func(int) (api.Piece, bool)
	ack   func(int) int
}

func askingOf(q *Queue) asking {
	return asking{q.Write, q.Close, q.Next, q.Back, q.First, q.Ack}
}

func askingOfSlow(s *slowQueue) asking {
	return asking{s.write, s.close, s.next, func() { s.cur = s.una }, s.first, s.ack}
}

// befall lets a befall what is asked.
func (k asking) befall(a act) answer {
	var says answer
	switch a.kind {
	case writes:
		says.n = k.write(a.text)
	case closes:
		k.close()
	case nexts:
		says.piece, says.is = k.next(a.n, a.mss)
	case backs:
		k.back()
	case firsts:
		says.piece, says.is = k.first(a.mss)
	case acks:
		says.n = k.ack(a.n)
	}
	return says
}

// marks are what a queue tells of itself.
type marks struct{ una, cur, sent, end, room int }

func look(q *Queue) marks {
	return marks{q.Una(), q.Cur(), q.Sent(), q.End(), q.Room()}
}

func lookSlowly(s *slowQueue) marks {
	return marks{s.una, s.cur, s.sent, len(s.places), s.room()}
}

// told is a queue, what befell it so far, and what it should be behind that.
type told struct {
	queue *Queue
	slow  *slowQueue
	story []act
}

func begin(t *testing.T) *told {
	t.Helper()
	h := &told{queue: New(), slow: newSlow()}
	h.check(t)
	return h
}

// befall lets each of list befall the queue, and checks it at each: what the
// last one of them said.
func (h *told) befall(t *testing.T, list ...act) answer {
	t.Helper()
	var got answer
	for _, a := range list {
		h.story = append(h.story, a)
		got = askingOf(h.queue).befall(a)
		if want := askingOfSlow(h.slow).befall(a); got != want {
			t.Fatalf("%v: it says %v, not %v", brief(h.story), got, want)
		}
		h.check(t)
	}
	return got
}

// check holds what the queue tells against the slow one, and that to ask for it
// changes nothing.
func (h *told) check(t *testing.T) {
	t.Helper()
	for range 2 {
		if got, want := look(h.queue), lookSlowly(h.slow); got != want {
			t.Fatalf("behind %v: it is %v, not %v", brief(h.story), got, want)
		}
	}
}

// brief is the end of a story, short enough to be told.
func brief(story []act) []act {
	short := slices.Clone(story[max(0, len(story)-20):])
	for i := range short {
		short[i].text = short[i].text[:min(20, len(short[i].text))]
	}
	return short
}

// story is a queue's, from its beginning on.
func story(list ...act) []act {
	return list
}

// open is a queue in which text is written, and of which SYN went out and was
// acknowledged.
func open(text string, list ...act) []act {
	return append(story(write(text), next(1, 1), ack(1)), list...)
}

// markCase is a story by its name, what the last call of it says, and what the
// queue is behind it. They are the chapter's, worked out by hand.
type markCase struct {
	name  string
	story []act
	says  answer
	want  marks
}

func checkMarks(t *testing.T, cases []markCase) {
	t.Helper()
	for _, c := range cases {
		t.Run(c.name, func(t *testing.T) {
			h := begin(t)
			if got := h.befall(t, c.story...); got != c.says {
				t.Errorf("it says %v, not %v", got, c.says)
			}
			if got := look(h.queue); got != c.want {
				t.Errorf("it is %v, not %v", got, c.want)
			}
		})
	}
}

// many is what a call says that answers a number.
func many(n int) answer {
	return answer{n: n}
}

// sends is what a call says that answers a piece.
func sends(at int, body string, end bool) answer {
	return answer{piece: api.Piece{At: at, Body: body, Fin: end}, is: true}
}

// sendsSyn is what a call says that answers SYN.
var sendsSyn = answer{piece: api.Piece{Syn: true}, is: true}

// nothing is what a call says that answers neither.
var nothing answer

// long is a text of n bytes, which are all of 0 to 255 in turn.
func long(n int) string {
	list := make([]byte, n)
	for i := range list {
		list[i] = byte(i + i>>8)
	}
	return string(list)
}

func TestNew(t *testing.T) {
	q := New()
	if q == nil {
		t.Fatal("there is none")
	}
	if got := look(q); got != (marks{0, 0, 0, 1, 2048}) {
		t.Error(got)
	}
}

func TestWrite(t *testing.T) {
	full := write(long(2048))
	checkMarks(t, []markCase{
		{"the empty text", story(write("")), many(0), marks{0, 0, 0, 1, 2048}},
		{"one byte", story(write("a")), many(1), marks{0, 0, 0, 2, 2047}},
		{"hello", story(write("hello")), many(5), marks{0, 0, 0, 6, 2043}},
		{"one behind the other", story(write("hello"), write("you")), many(3), marks{0, 0, 0, 9, 2040}},
		{"the empty text behind others", story(write("hello"), write("")), many(0), marks{0, 0, 0, 6, 2043}},
		{"a byte less than Room", story(write(long(2047))), many(2047), marks{0, 0, 0, 2048, 1}},
		{"as long as Room", story(full), many(2048), marks{0, 0, 0, 2049, 0}},
		{"a byte more than Room", story(write(long(2049))), many(2048), marks{0, 0, 0, 2049, 0}},
		{"much more than Room", story(write(long(100000))), many(2048), marks{0, 0, 0, 2049, 0}},
		{"as long as what Room is left", story(write(long(2000)), write(long(48))), many(48), marks{0, 0, 0, 2049, 0}},
		{"a byte less than that", story(write(long(2000)), write(long(47))), many(47), marks{0, 0, 0, 2048, 1}},
		{"a byte more than that", story(write(long(2000)), write(long(49))), many(48), marks{0, 0, 0, 2049, 0}},
		{"no Room", story(full, write("a")), many(0), marks{0, 0, 0, 2049, 0}},
		{"no Room, and the empty text", story(full, write("")), many(0), marks{0, 0, 0, 2049, 0}},
		{"no Room, and much", story(full, write(long(5000))), many(0), marks{0, 0, 0, 2049, 0}},
	})
}

func TestWriteOnceClosed(t *testing.T) {
	checkMarks(t, []markCase{
		{"a text", story(shut, write("hello")), many(0), marks{0, 0, 0, 2, 0}},
		{"the empty text", story(shut, write("")), many(0), marks{0, 0, 0, 2, 0}},
		{"a long text", story(shut, write(long(3000))), many(0), marks{0, 0, 0, 2, 0}},
		{"behind a text", story(write("hello"), shut, write("you")), many(0), marks{0, 0, 0, 7, 0}},
		{"closed twice", story(write("hello"), shut, shut, write("you")), many(0), marks{0, 0, 0, 7, 0}},
		{"all went out", open("hello", shut, next(99, 99), write("you")), many(0), marks{1, 7, 7, 7, 0}},
		{"all is acknowledged", open("hello", shut, next(99, 99), ack(7), write("you")), many(0), marks{7, 7, 7, 7, 0}},
	})
}

func TestClose(t *testing.T) {
	checkMarks(t, []markCase{
		{"without bytes", story(shut), nothing, marks{0, 0, 0, 2, 0}},
		{"twice", story(shut, shut), nothing, marks{0, 0, 0, 2, 0}},
		{"with bytes", story(write("hello"), shut), nothing, marks{0, 0, 0, 7, 0}},
		{"with bytes, three times", story(write("hello"), shut, shut, shut), nothing, marks{0, 0, 0, 7, 0}},
		{"without Room", story(write(long(2048)), shut), nothing, marks{0, 0, 0, 2050, 0}},
		{"all that there was went out", open("hello", next(99, 99), shut), nothing, marks{1, 6, 6, 7, 0}},
		{"all that there was is acknowledged", open("hello", next(99, 99), ack(6), shut), nothing, marks{6, 6, 6, 7, 0}},
		{"once more behind FIN", open("hello", shut, next(99, 99), ack(7), shut), nothing, marks{7, 7, 7, 7, 0}},
	})
}

func TestRoom(t *testing.T) {
	full := long(2048)
	checkMarks(t, []markCase{
		{"SYN went out", story(next(1, 1)), sendsSyn, marks{0, 1, 1, 1, 2048}},
		{"SYN is acknowledged", story(next(1, 1), ack(1)), many(1), marks{1, 1, 1, 1, 2048}},
		{"full, SYN isn't acknowledged", story(write(full), next(1, 1)), sendsSyn, marks{0, 1, 1, 2049, 0}},
		{"full, SYN is acknowledged", open(full), many(1), marks{1, 1, 1, 2049, 0}},
		{"bytes went out", open("hello", next(9, 9)), sends(1, "hello", false), marks{1, 6, 6, 6, 2043}},
		{"a byte is acknowledged", open("hello", next(9, 9), ack(2)), many(1), marks{2, 6, 6, 6, 2044}},
		{"all but one are acknowledged", open("hello", next(9, 9), ack(5)), many(4), marks{5, 6, 6, 6, 2047}},
		{"all are acknowledged", open("hello", next(9, 9), ack(6)), many(5), marks{6, 6, 6, 6, 2048}},
		{"SYN and bytes at once", story(write("hello"), next(1, 1), next(9, 9), ack(4)), many(4), marks{4, 6, 6, 6, 2046}},
		{"a byte of a full one", open(full, next(9, 1), ack(2)), many(1), marks{2, 2, 2, 2049, 1}},
		{"and is written anew", open(full, next(9, 1), ack(2), write("abc")), many(1), marks{2, 2, 2, 2050, 0}},
		{"all of a full one", open(full, next(5000, 5000), ack(2049)), many(2048), marks{2049, 2049, 2049, 2049, 2048}},
		{"and a full one anew", open(full, next(5000, 5000), ack(2049), write(long(2050))), many(2048), marks{2049, 2049, 2049, 4097, 0}},
		{"some, and some more", open(full, next(5000, 5000), ack(101), write(long(60)), ack(201)), many(100), marks{201, 2049, 2049, 2109, 140}},
		{"closed, and acknowledged", open("hello", shut, next(9, 2), ack(3)), many(2), marks{3, 3, 3, 7, 0}},
		{"went out, and goes back", open("hello", next(9, 9), back), nothing, marks{1, 1, 6, 6, 2043}},
	})
}

func TestNextAtSyn(t *testing.T) {
	checkMarks(t, []markCase{
		{"limit is the least int", story(next(math.MinInt, 9)), nothing, marks{0, 0, 0, 1, 2048}},
		{"limit -1", story(next(-1, 9)), nothing, marks{0, 0, 0, 1, 2048}},
		{"limit 0", story(next(0, 9)), nothing, marks{0, 0, 0, 1, 2048}},
		{"limit 1", story(next(1, 9)), sendsSyn, marks{0, 1, 1, 1, 2048}},
		{"limit 2", story(next(2, 9)), sendsSyn, marks{0, 1, 1, 1, 2048}},
		{"limit is the greatest int", story(next(math.MaxInt, 9)), sendsSyn, marks{0, 1, 1, 1, 2048}},
		{"mss is the least int", story(next(9, math.MinInt)), nothing, marks{0, 0, 0, 1, 2048}},
		{"mss -1", story(next(9, -1)), nothing, marks{0, 0, 0, 1, 2048}},
		{"mss 0", story(next(9, 0)), nothing, marks{0, 0, 0, 1, 2048}},
		{"mss 1", story(next(9, 1)), sendsSyn, marks{0, 1, 1, 1, 2048}},
		{"mss is the greatest int", story(next(9, math.MaxInt)), sendsSyn, marks{0, 1, 1, 1, 2048}},
		{"alone, ahead of bytes", story(write("hello"), next(9, 9)), sendsSyn, marks{0, 1, 1, 6, 2043}},
		{"alone, ahead of FIN", story(shut, next(9, 9)), sendsSyn, marks{0, 1, 1, 2, 0}},
		{"alone, ahead of bytes and FIN", story(write("hello"), shut, next(99, 99)), sendsSyn, marks{0, 1, 1, 7, 0}},
		{"there is no more", story(next(9, 9), next(9, 9)), nothing, marks{0, 1, 1, 1, 2048}},
		{"once more behind Back", story(next(9, 9), back, next(9, 9)), sendsSyn, marks{0, 1, 1, 1, 2048}},
		{"once more, alone", story(write("ab"), next(9, 9), next(9, 9), back, next(9, 9)), sendsSyn, marks{0, 1, 3, 3, 2046}},
	})
}

func TestNextByLimit(t *testing.T) {
	at := marks{1, 1, 1, 6, 2043}
	checkMarks(t, []markCase{
		{"the least int", open("hello", next(math.MinInt, 9)), nothing, at},
		{"below 0", open("hello", next(-1, 9)), nothing, at},
		{"0", open("hello", next(0, 9)), nothing, at},
		{"at Cur", open("hello", next(1, 9)), nothing, at},
		{"a byte", open("hello", next(2, 9)), sends(1, "h", false), marks{1, 2, 2, 6, 2043}},
		{"a byte ahead of End", open("hello", next(5, 9)), sends(1, "hell", false), marks{1, 5, 5, 6, 2043}},
		{"at End", open("hello", next(6, 9)), sends(1, "hello", false), marks{1, 6, 6, 6, 2043}},
		{"a place behind End", open("hello", next(7, 9)), sends(1, "hello", false), marks{1, 6, 6, 6, 2043}},
		{"the greatest int", open("hello", next(math.MaxInt, 9)), sends(1, "hello", false), marks{1, 6, 6, 6, 2043}},
		{"at Cur further on", open("hello", next(4, 9), next(4, 9)), nothing, marks{1, 4, 4, 6, 2043}},
		{"below Cur further on", open("hello", next(4, 9), next(3, 9)), nothing, marks{1, 4, 4, 6, 2043}},
		{"a byte further on", open("hello", next(4, 9), next(5, 9)), sends(4, "l", false), marks{1, 5, 5, 6, 2043}},
		{"just as far as mss", open("hello", next(4, 3)), sends(1, "hel", false), marks{1, 4, 4, 6, 2043}},
		{"less far than mss", open("hello", next(3, 3)), sends(1, "he", false), marks{1, 3, 3, 6, 2043}},
		{"at End, all is out", open("hello", next(9, 9), next(9, 9)), nothing, marks{1, 6, 6, 6, 2043}},
		{"without bytes", open("", next(9, 9)), nothing, marks{1, 1, 1, 1, 2048}},
	})
}

func TestNextByMss(t *testing.T) {
	at := marks{1, 1, 1, 6, 2043}
	most := math.MaxInt
	checkMarks(t, []markCase{
		{"the least int", open("hello", next(9, math.MinInt)), nothing, at},
		{"below 0", open("hello", next(9, -1)), nothing, at},
		{"0", open("hello", next(9, 0)), nothing, at},
		{"1", open("hello", next(9, 1)), sends(1, "h", false), marks{1, 2, 2, 6, 2043}},
		{"more bytes", open("hello", next(9, 4)), sends(1, "hell", false), marks{1, 5, 5, 6, 2043}},
		{"just as many", open("hello", next(9, 5)), sends(1, "hello", false), marks{1, 6, 6, 6, 2043}},
		{"less bytes", open("hello", next(9, 6)), sends(1, "hello", false), marks{1, 6, 6, 6, 2043}},
		{"the greatest int", open("hello", next(9, most)), sends(1, "hello", false), marks{1, 6, 6, 6, 2043}},
		{"both the greatest int", open("hello", next(most, most)), sends(1, "hello", false), marks{1, 6, 6, 6, 2043}},
		{"and further on", open("hello", next(9, 3), next(most, most)), sends(4, "lo", false), marks{1, 6, 6, 6, 2043}},
		{"both the least int", open("hello", next(math.MinInt, math.MinInt)), nothing, at},
		{"0 at End", open("hello", next(9, 9), next(9, 0)), nothing, marks{1, 6, 6, 6, 2043}},
		{"all of a full one", open(long(2048), next(5000, 5000)), sends(1, long(2048), false), marks{1, 2049, 2049, 2049, 0}},
		{"more than MaxSeg", open(long(2048), next(5000, 2047)), sends(1, long(2047), false), marks{1, 2048, 2048, 2049, 0}},
	})
}

func TestNextOfFin(t *testing.T) {
	hello := func(list ...act) []act { return open("hello", append(story(shut), list...)...) }
	most := math.MaxInt
	checkMarks(t, []markCase{
		{"with the last bytes", hello(next(7, 9)), sends(1, "hello", true), marks{1, 7, 7, 7, 0}},
		{"with the last bytes, just mss", hello(next(7, 5)), sends(1, "hello", true), marks{1, 7, 7, 7, 0}},
		{"cut off by mss", hello(next(7, 4)), sends(1, "hell", false), marks{1, 5, 5, 7, 0}},
		{"cut off by limit", hello(next(6, 9)), sends(1, "hello", false), marks{1, 6, 6, 7, 0}},
		{"cut off by limit, just mss", hello(next(6, 5)), sends(1, "hello", false), marks{1, 6, 6, 7, 0}},
		{"cut off by limit, and bytes too", hello(next(5, 9)), sends(1, "hell", false), marks{1, 5, 5, 7, 0}},
		{"limit behind it", hello(next(8, 9)), sends(1, "hello", true), marks{1, 7, 7, 7, 0}},
		{"the greatest ints", hello(next(most, most)), sends(1, "hello", true), marks{1, 7, 7, 7, 0}},
		{"with the last byte", hello(next(9, 4), next(9, 1)), sends(5, "o", true), marks{1, 7, 7, 7, 0}},
		{"alone", hello(next(6, 9), next(7, 9)), sends(6, "", true), marks{1, 7, 7, 7, 0}},
		{"alone by mss 1", hello(next(6, 9), next(7, 1)), sends(6, "", true), marks{1, 7, 7, 7, 0}},
		{"alone by the greatest ints", hello(next(6, 9), next(most, most)), sends(6, "", true), marks{1, 7, 7, 7, 0}},
		{"not by mss 0", hello(next(6, 9), next(7, 0)), nothing, marks{1, 6, 6, 7, 0}},
		{"not at limit", hello(next(6, 9), next(6, 9)), nothing, marks{1, 6, 6, 7, 0}},
		{"there is no more", hello(next(9, 9), next(9, 9)), nothing, marks{1, 7, 7, 7, 0}},
		{"without bytes", open("", shut, next(2, 1)), sends(1, "", true), marks{1, 2, 2, 2, 0}},
		{"without bytes, at limit", open("", shut, next(1, 1)), nothing, marks{1, 1, 1, 2, 0}},
		{"closed behind the last bytes", open("hello", next(9, 9), shut, next(9, 9)), sends(6, "", true), marks{1, 7, 7, 7, 0}},
		{"once more behind Back", hello(next(9, 9), back, next(9, 9)), sends(1, "hello", true), marks{1, 7, 7, 7, 0}},
		{"closed and gone back", open("hello", next(9, 9), shut, back, next(9, 9)), sends(1, "hello", true), marks{1, 7, 7, 7, 0}},
		{"all bytes are acknowledged", open("hello", next(9, 9), ack(6), shut, next(9, 9)), sends(6, "", true), marks{6, 7, 7, 7, 0}},
		{"of a full one", open(long(2048), shut, next(5000, 5000)), sends(1, long(2048), true), marks{1, 2050, 2050, 2050, 0}},
	})
}

func TestSent(t *testing.T) {
	checkMarks(t, []markCase{
		{"as Next goes on", open("hello", next(9, 2), next(9, 2)), sends(3, "ll", false), marks{1, 5, 5, 6, 2043}},
		{"behind Back", open("hello", next(9, 4), back), nothing, marks{1, 1, 5, 6, 2043}},
		{"as Next goes again", open("hello", next(9, 4), back, next(9, 2)), sends(1, "he", false), marks{1, 3, 5, 6, 2043}},
		{"as Next comes up to it", open("hello", next(9, 4), back, next(9, 4)), sends(1, "hell", false), marks{1, 5, 5, 6, 2043}},
		{"as Next goes past it", open("hello", next(9, 2), back, next(9, 4)), sends(1, "hell", false), marks{1, 5, 5, 6, 2043}},
		{"as nothing goes out", open("hello", next(9, 2), next(3, 9)), nothing, marks{1, 3, 3, 6, 2043}},
		{"as FIN goes again", open("hi", shut, next(9, 9), back, next(9, 1)), sends(1, "h", false), marks{1, 2, 4, 4, 0}},
		{"as bytes are written", open("hello", next(9, 9), write("you")), many(3), marks{1, 6, 6, 9, 2040}},
		{"again with what was written behind", open("hello", next(9, 9), write("you"), back, next(99, 99)),
			sends(1, "helloyou", false), marks{1, 9, 9, 9, 2040}},
	})
}

func TestBack(t *testing.T) {
	checkMarks(t, []markCase{
		{"of a new one", story(back), nothing, marks{0, 0, 0, 1, 2048}},
		{"of one that never went out", story(write("hello"), back), nothing, marks{0, 0, 0, 6, 2043}},
		{"SYN", story(write("hello"), next(9, 9), back), nothing, marks{0, 0, 1, 6, 2043}},
		{"SYN and bytes", story(write("hello"), next(9, 9), next(9, 9), back), nothing, marks{0, 0, 6, 6, 2043}},
		{"nothing behind SYN acknowledged", open("hello", next(9, 9), back), nothing, marks{1, 1, 6, 6, 2043}},
		{"some acknowledged", open("hello", next(9, 9), ack(3), back), nothing, marks{3, 3, 6, 6, 2045}},
		{"all acknowledged", open("hello", next(9, 9), ack(6), back), nothing, marks{6, 6, 6, 6, 2048}},
		{"twice", open("hello", next(9, 9), ack(3), back, back), nothing, marks{3, 3, 6, 6, 2045}},
		{"FIN", open("hello", shut, next(9, 9), ack(6), back), nothing, marks{6, 6, 7, 7, 0}},
		{"FIN acknowledged", open("hello", shut, next(9, 9), ack(7), back), nothing, marks{7, 7, 7, 7, 0}},
		{"what goes out then", open("hello", next(9, 9), ack(3), back, next(9, 2)), sends(3, "ll", false), marks{3, 5, 6, 6, 2045}},
	})
}

func TestFirst(t *testing.T) {
	hello := func(list ...act) []act { return open("hello", list...) }
	out := func(list ...act) []act { return hello(append(story(next(9, 9), ack(3)), list...)...) }
	end := func(list ...act) []act { return hello(append(story(shut, next(9, 9)), list...)...) }
	atOut := marks{3, 6, 6, 6, 2045}
	checkMarks(t, []markCase{
		{"a new one", story(first(9)), nothing, marks{0, 0, 0, 1, 2048}},
		{"nothing went out", story(write("hello"), shut, first(9)), nothing, marks{0, 0, 0, 7, 0}},
		{"nothing behind SYN went out", hello(first(9)), nothing, marks{1, 1, 1, 6, 2043}},
		{"SYN", story(write("hello"), next(9, 9), first(9)), sendsSyn, marks{0, 1, 1, 6, 2043}},
		{"SYN alone, though bytes went out", story(write("hello"), next(9, 9), next(9, 9), first(9)), sendsSyn, marks{0, 6, 6, 6, 2043}},
		{"SYN by mss 1", story(next(9, 9), first(1)), sendsSyn, marks{0, 1, 1, 1, 2048}},
		{"SYN not by mss 0", story(next(9, 9), first(0)), nothing, marks{0, 1, 1, 1, 2048}},
		{"part went out", hello(next(9, 3), first(9)), sends(1, "hel", false), marks{1, 4, 4, 6, 2043}},
		{"part went out, just mss", hello(next(9, 3), first(3)), sends(1, "hel", false), marks{1, 4, 4, 6, 2043}},
		{"part went out, and less", hello(next(9, 3), first(2)), sends(1, "he", false), marks{1, 4, 4, 6, 2043}},
		{"some acknowledged", out(first(9)), sends(3, "llo", false), atOut},
		{"mss 1", out(first(1)), sends(3, "l", false), atOut},
		{"mss 0", out(first(0)), nothing, atOut},
		{"mss below 0", out(first(-1)), nothing, atOut},
		{"mss is the least int", out(first(math.MinInt)), nothing, atOut},
		{"mss is the greatest int", out(first(math.MaxInt)), sends(3, "llo", false), atOut},
		{"behind Back", out(back, first(2)), sends(3, "ll", false), marks{3, 3, 6, 6, 2045}},
		{"behind Back and Next", out(back, next(9, 1), first(9)), sends(3, "llo", false), marks{3, 4, 6, 6, 2045}},
		{"twice", out(first(2), first(2)), sends(3, "ll", false), atOut},
		{"all is acknowledged", out(ack(6), first(9)), nothing, marks{6, 6, 6, 6, 2048}},
		{"with FIN", end(first(9)), sends(1, "hello", true), marks{1, 7, 7, 7, 0}},
		{"with FIN, just mss", end(first(5)), sends(1, "hello", true), marks{1, 7, 7, 7, 0}},
		{"FIN cut off by mss", end(first(4)), sends(1, "hell", false), marks{1, 7, 7, 7, 0}},
		{"FIN didn't go out", hello(shut, next(6, 9), first(9)), sends(1, "hello", false), marks{1, 6, 6, 7, 0}},
		{"FIN alone", end(ack(6), first(9)), sends(6, "", true), marks{6, 7, 7, 7, 0}},
		{"FIN alone by mss 1", end(ack(6), first(1)), sends(6, "", true), marks{6, 7, 7, 7, 0}},
		{"FIN not by mss 0", end(ack(6), first(0)), nothing, marks{6, 7, 7, 7, 0}},
		{"FIN is next, but didn't go out", hello(shut, next(6, 9), ack(6), first(9)), nothing, marks{6, 6, 6, 7, 0}},
		{"FIN is acknowledged", end(ack(7), first(9)), nothing, marks{7, 7, 7, 7, 0}},
	})
}

func TestAck(t *testing.T) {
	out := func(list ...act) []act { return open("hello", append(story(next(5, 9), ack(3)), list...)...) }
	at := marks{3, 5, 5, 6, 2045}
	checkMarks(t, []markCase{
		{"the least int", out(ack(math.MinInt)), many(0), at},
		{"-2^32", out(ack(-1 << 32)), many(0), at},
		{"-1", out(ack(-1)), many(0), at},
		{"0", out(ack(0)), many(0), at},
		{"below Una", out(ack(2)), many(0), at},
		{"at Una", out(ack(3)), many(0), at},
		{"a place above Una", out(ack(4)), many(1), marks{4, 5, 5, 6, 2046}},
		{"at Sent", out(ack(5)), many(2), marks{5, 5, 5, 6, 2047}},
		{"at Sent, twice", out(ack(5), ack(5)), many(0), marks{5, 5, 5, 6, 2047}},
		{"a place above Sent", out(ack(6)), many(0), at},
		{"above End", out(ack(7)), many(0), at},
		{"2^32 above", out(ack(1<<32 + 4)), many(0), at},
		{"the greatest int", out(ack(math.MaxInt)), many(0), at},
		{"a new one, -1", story(ack(-1)), many(0), marks{0, 0, 0, 1, 2048}},
		{"a new one, 0", story(ack(0)), many(0), marks{0, 0, 0, 1, 2048}},
		{"a new one, 1", story(ack(1)), many(0), marks{0, 0, 0, 1, 2048}},
		{"SYN", story(write("ab"), next(9, 9), ack(1)), many(1), marks{1, 1, 1, 3, 2046}},
		{"more than SYN went out", story(write("ab"), next(9, 9), ack(2)), many(0), marks{0, 1, 1, 3, 2046}},
		{"SYN and a byte", story(write("ab"), next(9, 9), next(9, 9), ack(2)), many(2), marks{2, 3, 3, 3, 2047}},
		{"SYN, bytes and FIN", story(write("ab"), shut, next(9, 9), next(9, 9), ack(4)), many(4), marks{4, 4, 4, 4, 0}},
		{"bytes that were written, but not sent", out(write("you"), ack(6)), many(0), marks{3, 5, 5, 9, 2042}},
	})
}

func TestCurAsAckPasses(t *testing.T) {
	out := func(list ...act) []act { return open("hello", append(story(next(6, 9), back), list...)...) }
	checkMarks(t, []markCase{
		{"passes it", out(ack(3)), many(2), marks{3, 3, 6, 6, 2045}},
		{"passes it by one", out(ack(2)), many(1), marks{2, 2, 6, 6, 2044}},
		{"passes it up to Sent", out(ack(6)), many(5), marks{6, 6, 6, 6, 2048}},
		{"comes short of it", out(next(9, 3), ack(3)), many(2), marks{3, 4, 6, 6, 2045}},
		{"comes just up to it", out(next(9, 3), ack(4)), many(3), marks{4, 4, 6, 6, 2046}},
		{"passes it further on", out(next(9, 3), ack(5)), many(4), marks{5, 5, 6, 6, 2047}},
		{"what goes out then", out(ack(3), next(9, 9)), sends(3, "llo", false), marks{3, 6, 6, 6, 2045}},
		{"isn't above Una", out(ack(1)), many(0), marks{1, 1, 6, 6, 2043}},
		{"is above Sent", out(ack(7)), many(0), marks{1, 1, 6, 6, 2043}},
		{"SYN", story(write("ab"), next(9, 9), next(9, 9), back, ack(1)), many(1), marks{1, 1, 3, 3, 2046}},
		{"SYN and a byte", story(write("ab"), next(9, 9), next(9, 9), back, ack(2)), many(2), marks{2, 2, 3, 3, 2047}},
		{"FIN", out(shut, next(9, 9), back, ack(7)), many(6), marks{7, 7, 7, 7, 0}},
	})
}

func TestFinIsAcknowledged(t *testing.T) {
	for _, text := range []string{"", "hello", long(2048)} {
		end := len(text) + 2
		h := begin(t)
		h.befall(t, open(text, shut, next(end, 5000))...)
		if got := h.befall(t, ack(end)); got != many(end-1) {
			t.Error(got)
		}
		for _, a := range story(next(math.MaxInt, math.MaxInt), first(9), back, next(end+1, 1), first(math.MaxInt),
			ack(end), ack(end-1), ack(end+1), ack(0), ack(math.MaxInt), write("you"), write(""), shut, next(99, 99)) {
			if got := h.befall(t, a); got != nothing {
				t.Errorf("%v says %v", a, got)
			}
			if got := look(h.queue); got != (marks{end, end, end, end, 0}) {
				t.Errorf("behind %v it is %v", a, got)
			}
		}
	}
}

// A text in which each byte stands goes out in pieces again and again, ever
// other ones, and says always the same at each place.
func TestSameAtEachPlace(t *testing.T) {
	all := long(2048)
	for mss := 1; mss < 400; mss += 1 + mss/3 {
		h := begin(t)
		h.befall(t, open(all, shut)...)
		for una := 1; una < 2050; una += 1 + una*3%170 {
			h.befall(t, ack(una), back)
			for i := 0; h.queue.Cur() < 2050; i++ {
				a := next(h.queue.Cur()+1+i*7%300, 1+(mss+i*5)%mss)
				got := h.befall(t, a).piece
				checkPiece(t, got, all)
			}
			checkPiece(t, h.befall(t, first(mss)).piece, all)
		}
	}
}

// checkPiece holds that the bytes of p are those that were written there.
func checkPiece(t *testing.T, p api.Piece, all string) {
	t.Helper()
	behind := p.At + len(p.Body)
	if p.At < 1 || behind > len(all)+1 || p.Body != all[p.At-1:behind-1] || p.Syn {
		t.Fatalf("at %d there are %q", p.At, p.Body)
	}
	if p.Fin && behind != len(all)+1 || !p.Fin && p.Body == "" {
		t.Fatalf("at %d, with %d bytes, Fin is %v", p.At, len(p.Body), p.Fin)
	}
}

// Much more than there is ever Room for goes through a queue, and comes out as
// it was.
func TestLongText(t *testing.T) {
	all := strings.Repeat(long(5000), 20)
	h := begin(t)
	h.befall(t, next(1, 1), ack(1))
	rest, got := all, ""
	for i := 0; len(got) < len(all); i++ {
		n := h.befall(t, write(rest[:min(len(rest), i*97%2500)])).n
		rest = rest[n:]
		got += h.befall(t, next(math.MaxInt, 1+i*31%1500)).piece.Body
		h.befall(t, ack(h.queue.Sent()-i%3))
	}
	if got != all || rest != "" {
		t.Error("it comes out as another one")
	}
}

// What a queue answered stays as it is, whatever becomes of the queue.
func TestAnswersStay(t *testing.T) {
	q := New()
	text := strings.Clone(long(2048))
	q.Write(text)
	q.Next(1, 1)
	q.Ack(1)
	p, _ := q.Next(5000, 700)
	f, _ := q.First(600)
	q.Ack(2)
	q.Write("x")
	q.Ack(701)
	q.Write(strings.Repeat("y", 2048))
	q.Next(math.MaxInt, math.MaxInt)
	if p != (api.Piece{At: 1, Body: long(2048)[:700]}) || f != (api.Piece{At: 1, Body: long(2048)[:600]}) {
		t.Error("they were changed")
	}
	if text != long(2048) {
		t.Error("what was written was changed")
	}
}

// A queue keeps no bytes that nobody asks for any more.
func TestKeepsLittle(t *testing.T) {
	q := New()
	q.Next(1, 1)
	q.Ack(1)
	for range 1000 {
		q.Write(long(4000))
		q.Next(math.MaxInt, math.MaxInt)
		q.Ack(q.Sent())
	}
	if len(q.bytes) != 0 || cap(q.bytes) > 2*api.MaxOut {
		t.Errorf("it keeps %d bytes, and room for %d", len(q.bytes), cap(q.bytes))
	}
}

func TestTwoQueues(t *testing.T) {
	list := []*told{begin(t), begin(t), begin(t)}
	l := lot(2463534242)
	for i := range 3000 {
		h := list[i*i%11%3]
		if i%500 == 499 {
			list[l.draw(3)] = begin(t)
		}
		h.befall(t, l.act(h))
		for _, other := range list {
			other.check(t)
		}
	}
}

// All stories of five acts around SYN, two bytes and FIN.
func TestAllShortStories(t *testing.T) {
	acts := []act{write("a"), write("bc"), shut, next(1, 1), next(2, 9), next(3, 1), next(9, 2), back, first(1), first(9),
		ack(0), ack(1), ack(2), ack(3), ack(4)}
	var tell func(list []act)
	tell = func(list []act) {
		if len(list) == 5 {
			begin(t).befall(t, list...)
			return
		}
		for _, a := range acts {
			tell(append(list[:len(list):len(list)], a))
		}
	}
	tell(nil)
}

// All that can befall a queue of a few bytes that lie in whatever way: how much
// is acknowledged, went out, and goes out again.
func TestAllNear(t *testing.T) {
	for size := range 4 {
		for sent := range size + 3 {
			for una := range sent + 1 {
				for cur := una; cur <= sent; cur++ {
					if sent <= size+1 {
						checkNear(t, near(size, una, cur, sent), marks{una, cur, sent, size + 1, 2048 - size + max(0, una-1)})
					}
					closed := append(story(write(long(size)), shut), near(0, una, cur, sent)...)
					checkNear(t, closed, marks{una, cur, sent, size + 2, 0})
				}
			}
		}
	}
}

// near is a story behind which a queue of size bytes lies so.
func near(size, una, cur, sent int) []act {
	return story(write(long(size)), next(min(1, sent), 1), next(sent, 9), ack(una), back, next(min(1, cur), 1), next(cur, 9))
}

// checkNear lets each act around its places befall a queue that lies as at says
// behind that story.
func checkNear(t *testing.T, list []act, at marks) {
	t.Helper()
	var acts []act
	for n := -1; n <= 6; n++ {
		acts = append(acts, first(n), ack(n))
		for mss := -1; mss <= 5; mss++ {
			acts = append(acts, next(n, mss))
		}
	}
	for _, a := range append(acts, back, shut, write(""), write("xyz")) {
		h := begin(t)
		h.befall(t, list...)
		if got := look(h.queue); got != at {
			t.Fatalf("behind %v: it is %v, not %v", list, got, at)
		}
		h.befall(t, a, next(math.MaxInt, math.MaxInt), back, next(math.MaxInt, math.MaxInt), first(2))
	}
}

// lot draws the same numbers at each run.
type lot uint64

func (l *lot) draw(n int) int {
	*l ^= *l << 13
	*l ^= *l >> 7
	*l ^= *l << 17
	return int(uint64(*l) % uint64(n))
}

// act draws what befalls h, mostly around the places where it is.
func (l *lot) act(h *told) act {
	q := h.queue
	switch l.draw(12) {
	case 0, 1, 2:
		return write(l.text())
	case 3:
		return back
	case 4:
		return first(l.draw(300) - 2)
	case 5, 6, 7:
		return ack(q.Una() + l.draw(q.Sent()-q.Una()+4) - 2)
	case 8:
		return l.wrong()
	}
	return next(q.Cur()+l.draw(q.End()-q.Cur()+4)-1, l.draw(400))
}

// text draws one, seldom a long one.
func (l *lot) text() string {
	n := l.draw(100)
	if l.draw(6) == 0 {
		n = l.draw(3000)
	}
	return long(5000)[l.draw(1000):][:n]
}

// wrong draws what is far from all places, and seldom that it is closed.
func (l *lot) wrong() act {
	far := []int{math.MinInt, -1 << 32, -1, 0, 1, 1 << 32, math.MaxInt}
	switch l.draw(5) {
	case 0:
		if l.draw(4) == 0 {
			return shut
		}
		return first(far[l.draw(7)])
	case 1:
		return ack(far[l.draw(7)])
	}
	return next(far[l.draw(7)], far[l.draw(7)])
}

func TestLongStories(t *testing.T) {
	l := lot(88172645463325252)
	for range 200 {
		h := begin(t)
		for range 1 + l.draw(400) {
			h.befall(t, l.act(h))
		}
	}
}
