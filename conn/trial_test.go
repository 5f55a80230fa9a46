package conn

import (
	"fmt"
	"slices"
	"strings"
	"testing"

	"packetboat/api"
)

var (
	here  = api.End{Addr: 1, Port: 40000}
	there = api.End{Addr: 2, Port: 80}
)

// origin is where the numbers of both sides begin.
type origin struct{ iss, irs uint32 }

// Of some origins the numbers go round 2^32 in the middle of what befalls, or
// pass 2^31, from where on they are nearer the other way round.
var origins = []origin{
	{1000, 5000},
	{1<<32 - 2, 7},
	{9, 1<<32 - 2},
	{1<<32 - 1, 1<<32 - 1},
	{1<<31 - 3, 1 << 31},
	{0, 0},
}

// each runs f with each of the origins.
func each(t *testing.T, f func(t *testing.T, o origin)) {
	t.Helper()
	for _, o := range origins {
		t.Run(fmt.Sprint(o.iss, "and", o.irs), func(t *testing.T) { f(t, o) })
	}
}

// trial is a connection here, a slow one that all befalls likewise, and what
// that was so far. Its segments are told by places.
type trial struct {
	t *testing.T
	origin
	conn  *Conn
	slow  *slowConn
	story []event
}

// event is what befell a trial, to be told if need be.
type event struct {
	format string
	args   []any
}

// answer is what a call says, but for segments.
type answer struct {
	n  int
	s  string
	is bool
	e  api.Errno
}

// marks are what a connection tells of itself.
type marks struct {
	state, ready int
	why          api.Errno
}

// Bytes of a Body and of a window, of which most trials are.
const (
	usualMss = 100
	usualWin = 1000
)

// dial is a trial of which nothing has gone out or come.
func dial(t *testing.T, o origin, mss int) *trial {
	t.Helper()
	x := &trial{t: t, origin: o}
	c, e := Dial(here, there, o.iss, mss)
	slow, want := slowDial(here, there, o.iss, mss)
	if e != api.OK || want != api.OK {
		t.Fatalf("Dial with an mss of %d: %d, not %d", mss, e, want)
	}
	x.conn, x.slow = c, slow
	x.note("Dial, mss %d", mss)
	return x
}

// take is a trial to which a SYN came that told a window and an mss.
func take(t *testing.T, o origin, mss, win, told int) *trial {
	t.Helper()
	x := &trial{t: t, origin: o}
	g := x.syn(win, told)
	c, e := Take(here, g, o.iss, mss)
	slow, want := slowTake(here, g, o.iss, mss)
	if e != api.OK || want != api.OK {
		t.Fatalf("Take with an mss of %d: %d, not %d", mss, e, want)
	}
	x.conn, x.slow = c, slow
	x.note("Take, mss %d, of %v", mss, g)
	return x
}

// open is a trial that is Established, by a SYN that tells no mss.
func open(t *testing.T, o origin, mss, win int) *trial {
	t.Helper()
	x := dial(t, o, mss)
	x.out()
	g := x.syn(win, 0)
	g.HasAck, g.Ack = true, x.iss+1
	x.in(g)
	x.sends(x.goes(1, 1, api.MaxIn, ""))
	x.is(api.Established)
	return x
}

// note lengthens the story, and holds what the connection tells of itself
// against the slow one; to ask for it changes nothing.
func (x *trial) note(format string, args ...any) {
	x.t.Helper()
	x.story = append(x.story, event{format, args})
	want := marks{x.slow.state, x.slow.ready(), x.slow.why}
	for range 2 {
		if got := (marks{x.conn.State(), x.conn.Ready(), x.conn.Why()}); got != want {
			x.t.Fatalf("it is %v, not %v, behind\n%s", got, want, x.told())
		}
	}
}

// told is the end of the story, short enough to be told.
func (x *trial) told() string {
	var lines []string
	for _, v := range x.story[max(0, len(x.story)-25):] {
		s := fmt.Sprintf(v.format, v.args...)
		lines = append(lines, s[:min(len(s), 250)])
	}
	return strings.Join(lines, "\n")
}

// check notes what befell, and holds the answer against the slow connection's.
func (x *trial) check(got, want answer, format string, args ...any) answer {
	x.t.Helper()
	x.note(format, args...)
	if got != want {
		x.t.Fatalf("it says %v, not %v, behind\n%s", got, want, x.told())
	}
	return got
}

func (x *trial) in(g api.Seg) api.Errno {
	x.t.Helper()
	got, want := answer{e: x.conn.In(g)}, answer{e: x.slow.comes(g)}
	return x.check(got, want, "In %+v", g).e
}

func (x *trial) out() []api.Seg {
	x.t.Helper()
	list := x.conn.Out()
	want := x.slow.goOut()
	x.note("Out: %+v", list)
	if !slices.Equal(list, want) {
		x.t.Fatalf("there goes %+v, not %+v, behind\n%s", list, want, x.told())
	}
	return list
}

func (x *trial) tick(n int) api.Errno {
	x.t.Helper()
	got, want := answer{e: x.conn.Tick(n)}, answer{e: x.slow.tick(n)}
	return x.check(got, want, "Tick %d", n).e
}

func (x *trial) write(s string) (int, api.Errno) {
	x.t.Helper()
	var got, want answer
	got.n, got.e = x.conn.Write(s)
	want.n, want.e = x.slow.write(s)
	x.check(got, want, "Write of %d", len(s))
	return got.n, got.e
}

func (x *trial) read(most int) (string, bool, api.Errno) {
	x.t.Helper()
	var got, want answer
	got.s, got.is, got.e = x.conn.Read(most)
	want.s, want.is, want.e = x.slow.read(most)
	x.check(got, want, "Read %d", most)
	return got.s, got.is, got.e
}

func (x *trial) close() api.Errno {
	x.t.Helper()
	got, want := answer{e: x.conn.Close()}, answer{e: x.slow.close()}
	return x.check(got, want, "Close").e
}

func (x *trial) abort() api.Errno {
	x.t.Helper()
	got, want := answer{e: x.conn.Abort()}, answer{e: x.slow.abort()}
	return x.check(got, want, "Abort").e
}

// comes is a segment from there of what lies at place at, which acknowledges
// all ahead of ack.
func (x *trial) comes(at, ack, win int, body string) api.Seg {
	g := x.bare(at, win, body)
	g.HasAck, g.Ack = true, x.iss+uint32(ack)
	return g
}

// bare is a segment from there that acknowledges nothing.
func (x *trial) bare(at, win int, body string) api.Seg {
	return api.Seg{From: there, To: here, Seq: x.irs + uint32(at), Win: win, Body: body}
}

// syn is the SYN from there.
func (x *trial) syn(win, mss int) api.Seg {
	g := x.bare(0, win, "")
	g.Syn, g.Mss = true, mss
	return g
}

// reset is a Rst from there.
func (x *trial) reset(at int) api.Seg {
	g := x.bare(at, 0, "")
	g.Rst = true
	return g
}

// goes is a segment from here of what lies at place at, which acknowledges all
// ahead of next.
func (x *trial) goes(at, next, win int, body string) api.Seg {
	return api.Seg{
		From: here, To: there, Seq: x.iss + uint32(at), Ack: x.irs + uint32(next),
		HasAck: true, Win: win, Body: body,
	}
}

// breaks is the Rst from here with a Seq by its place.
func (x *trial) breaks(at int) api.Seg {
	return api.Seg{From: here, To: there, Seq: x.iss + uint32(at), Rst: true}
}

// withFin is g with Fin.
func withFin(g api.Seg) api.Seg {
	g.Fin = true
	return g
}

// sends is what goes out now, and nothing else.
func (x *trial) sends(want ...api.Seg) {
	x.t.Helper()
	if got := x.out(); !slices.Equal(got, want) {
		x.t.Fatalf("there goes %+v, not %+v, behind\n%s", got, want, x.told())
	}
}

// is checks the state.
func (x *trial) is(state int) {
	x.t.Helper()
	if got := x.conn.State(); got != state {
		x.t.Fatalf("the state is %d, not %d, behind\n%s", got, state, x.told())
	}
}

// ended checks that it is Closed, and why.
func (x *trial) ended(why api.Errno) {
	x.t.Helper()
	x.is(api.Closed)
	if got := x.conn.Why(); got != why {
		x.t.Fatalf("why is %d, not %d, behind\n%s", got, why, x.told())
	}
}

// says checks the error that a call answered.
func (x *trial) says(got, want api.Errno) {
	x.t.Helper()
	if got != want {
		x.t.Fatalf("it says %d, not %d, behind\n%s", got, want, x.told())
	}
}

// reads checks what may be read, all at once.
func (x *trial) reads(want string) {
	x.t.Helper()
	if got, over, e := x.read(1 << 20); got != want || over || e != api.OK {
		x.t.Fatalf("it reads %q, %v, %d, not %q, behind\n%s", got, over, e, want, x.told())
	}
}

// place is where a connection lies that was brought to a state: the first place
// that is not acknowledged, the first that never went out, and the first that
// lacks.
type place struct{ state, una, sent, next int }

// places are of each state.
var places = []place{
	{api.Closed, 1, 1, 1},
	{api.SynSent, 0, 1, 0},
	{api.SynRcvd, 0, 1, 1},
	{api.Established, 1, 1, 1},
	{api.FinWait1, 1, 2, 1},
	{api.FinWait2, 2, 2, 1},
	{api.CloseWait, 1, 1, 2},
	{api.Closing, 1, 2, 2},
	{api.LastAck, 1, 2, 2},
	{api.TimeWait, 2, 2, 2},
}

// later are those in which the other side's SYN has come.
var later = places[api.SynRcvd:]

// brought is a trial that was brought to a state, of which nothing waits to go
// out, and its place.
func brought(t *testing.T, o origin, state int) (*trial, place) {
	t.Helper()
	x := bring(t, o, state)
	x.out()
	x.is(state)
	return x, places[state]
}

func bring(t *testing.T, o origin, state int) *trial {
	t.Helper()
	switch state {
	case api.SynSent:
		return dial(t, o, usualMss)
	case api.SynRcvd:
		return take(t, o, usualMss, usualWin, 0)
	case api.Established:
		return open(t, o, usualMss, usualWin)
	case api.Closed:
		x, _ := brought(t, o, api.Established)
		x.abort()
		return x
	case api.FinWait1:
		x, _ := brought(t, o, api.Established)
		x.close()
		return x
	case api.FinWait2:
		x, _ := brought(t, o, api.FinWait1)
		x.in(x.comes(1, 2, usualWin, ""))
		return x
	case api.CloseWait:
		x, _ := brought(t, o, api.Established)
		x.in(withFin(x.comes(1, 1, usualWin, "")))
		return x
	case api.Closing:
		x, _ := brought(t, o, api.FinWait1)
		x.in(withFin(x.comes(1, 1, usualWin, "")))
		return x
	case api.LastAck:
		x, _ := brought(t, o, api.CloseWait)
		x.close()
		return x
	}
	x, _ := brought(t, o, api.FinWait2)
	x.in(withFin(x.comes(1, 2, usualWin, "")))
	return x
}

// eachState runs f with a trial of each of list, with each of the origins.
func eachState(t *testing.T, list []place, f func(x *trial, p place)) {
	t.Helper()
	each(t, func(t *testing.T, o origin) {
		for _, p := range list {
			t.Run(fmt.Sprint("state ", p.state), func(t *testing.T) {
				x, p := brought(t, o, p.state)
				f(x, p)
			})
		}
	})
}

// long is a text of n bytes, which are all of 0 to 255 in turn.
func long(n int) string {
	b := make([]byte, n)
	for i := range b {
		b[i] = byte(i)
	}
	return string(b)
}

// lot draws the same numbers at each run.
type lot uint64

func (l *lot) draw(n int) int {
	*l ^= *l << 13
	*l ^= *l >> 7
	*l ^= *l << 17
	return int(uint64(*l) % uint64(n))
}
