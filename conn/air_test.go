package conn

import (
	"strings"
	"testing"

	"packetboat/api"
)

// side is a program and its connection: it writes a text, and then closes; what
// it reads is held against the other one's text.
type side struct {
	conn    *Conn
	text    string
	written int
	closed  bool
	got     strings.Builder
	over    bool
}

// world is two sides, and the segments that are on their way between them.
type world struct {
	t *testing.T
	*lot
	ends  [2]api.End
	sides [2]*side
	air   []api.Seg
}

// meet is a world in which the first one dials; the second one, too, if both do.
func meet(t *testing.T, l *lot, both bool) *world {
	t.Helper()
	w := &world{t: t, lot: l, ends: [2]api.End{here, there}}
	for i := range w.sides {
		w.sides[i] = &side{text: long(5000)[l.draw(256):][:l.draw(4500)]}
		if i == 0 || both {
			w.sides[i].conn, _ = Dial(w.ends[i], w.ends[1-i], w.number(), w.mss())
		}
	}
	return w
}

func (w *world) number() uint32 {
	if w.draw(2) == 0 {
		return uint32(round - 1 - w.draw(3000))
	}
	return uint32(w.draw(round))
}

func (w *world) mss() int {
	return []int{50, 100, 536, 1000}[w.draw(4)]
}

// come lets g come to where it goes. To one that is Closed nothing comes.
func (w *world) come(g api.Seg) {
	i := 0
	if g.To == there {
		i = 1
	}
	s := w.sides[i]
	if s.conn == nil {
		s.conn, _ = Take(there, g, w.number(), w.mss())
		return
	}
	if e := s.conn.In(g); e != api.OK && e != api.ErrState {
		w.t.Fatalf("of %+v it says %d", g, e)
	}
}

// goOut lets all that goes out of side i come into the air.
func (w *world) goOut(i int) {
	c := w.sides[i].conn
	if c == nil {
		return
	}
	for _, g := range c.Out() {
		w.checkRoom(i, g)
		w.air = append(w.air, g)
	}
}

// checkRoom checks that nothing lies behind what the other side lets in, but
// for a probe of one place.
func (w *world) checkRoom(i int, g api.Seg) {
	w.t.Helper()
	other := w.sides[1-i].conn
	if g.Body == "" || other == nil || other.in == nil {
		return
	}
	edge := other.in.Next() + other.in.Window()
	if last := int(int32(g.Seq-other.next())) + other.in.Next() + len(g.Body) - 1; last > edge {
		w.t.Fatalf("side %d sends place %d, and %d is let in", i, last, edge)
	}
}

// work lets side i write, read or close.
func (w *world) work(i int) {
	s := w.sides[i]
	if s.conn == nil {
		return
	}
	if w.draw(2) == 0 {
		w.read(s, w.sides[1-i].text, w.draw(1000))
		return
	}
	n, e := s.conn.Write(s.text[s.written:min(s.written+w.draw(1000), len(s.text))])
	if e != api.OK && e != api.ErrAgain && !s.closed {
		w.t.Fatalf("side %d writes, and it says %d", i, e)
	}
	s.written += n
	if s.written == len(s.text) && !s.closed && s.conn.State() != api.SynSent {
		s.closed = true
		s.conn.Close()
	}
}

// read holds what s reads against the text of the other side: it is a beginning
// of that, and the end is told behind all of it.
func (w *world) read(s *side, text string, most int) {
	w.t.Helper()
	got, over, e := s.conn.Read(most)
	switch {
	case e != api.OK && (got != "" || over || s.over):
		w.t.Fatalf("beside %d it reads %q, %v", e, got, over)
	case e != api.OK && e != api.ErrAgain && e != api.ErrTimeout:
		w.t.Fatalf("it reads %d", e)
	case over && (got != "" || s.got.String() != text), s.over && !over:
		w.t.Fatalf("the end is told as %v behind %d of %d", over, s.got.Len(), len(text))
	}
	s.over = over
	s.got.WriteString(got)
	if !strings.HasPrefix(text, s.got.String()) {
		w.t.Fatalf("what is read is no beginning of what was written")
	}
}

// storm lets segments be lost, doubled and overtaken, for less time than it
// takes to give up.
func (w *world) storm() {
	ticks := 0
	for range 300 + w.draw(600) {
		i := w.draw(2)
		switch n := w.draw(20); {
		case n < 5:
			w.work(i)
		case n < 10:
			w.goOut(i)
		case n < 11 && ticks < 120:
			for _, s := range w.sides {
				if s.conn != nil {
					s.conn.Tick(1)
				}
			}
			ticks++
		case len(w.air) > 0:
			w.move(w.draw(len(w.air)), n)
		}
	}
}

// move lets a segment come, be lost, or be there twice.
func (w *world) move(k, how int) {
	g := w.air[k]
	switch how {
	case 11, 12:
		w.air = append(w.air, g)
		return
	case 13, 14:
	default:
		w.come(g)
	}
	w.air = append(w.air[:k], w.air[k+1:]...)
}

// calm lets all that goes out come at once, tick by tick, until both sides are
// done; what is over then.
func (w *world) calm() {
	w.t.Helper()
	for range 3000 {
		for i := range w.sides {
			w.work(i)
			w.goOut(i)
		}
		list := w.air
		w.air = nil
		for _, g := range list {
			w.come(g)
		}
		for _, s := range w.sides {
			if s.conn != nil {
				s.conn.Tick(1)
			}
		}
	}
	w.checkDone()
}

// checkDone checks that each has read all, and that nothing goes out any more.
func (w *world) checkDone() {
	w.t.Helper()
	for i, s := range w.sides {
		// The last ACK may have been lost, and who would send it anew be gone.
		if why := s.conn.Why(); s.conn.State() != api.Closed || why != api.OK && why != api.ErrTimeout {
			w.t.Fatalf("side %d is %d, %d", i, s.conn.State(), s.conn.Why())
		}
		if !s.over || s.got.String() != w.sides[1-i].text {
			w.t.Fatalf("side %d has read %d of %d, %v", i, s.got.Len(), len(w.sides[1-i].text), s.over)
		}
		if n := len(s.conn.Out()); n > 0 || len(w.air) > 0 {
			w.t.Fatalf("the air doesn't fall still")
		}
	}
}

func TestOverTheAir(t *testing.T) {
	var l lot = 1234567890123456789
	for range 150 {
		for _, both := range []bool{false, true} {
			w := meet(t, &l, both)
			w.storm()
			w.calm()
		}
	}
}

// TestOverACalmAir: with nothing lost nothing times out.
func TestOverACalmAir(t *testing.T) {
	var l lot = 987654321
	for range 50 {
		for _, both := range []bool{false, true} {
			w := meet(t, &l, both)
			w.calm()
			for i, s := range w.sides {
				if s.conn.Why() != api.OK {
					t.Errorf("why side %d is Closed: %d", i, s.conn.Why())
				}
			}
		}
	}
}

// TestBothDial: two that dial one another at the same time are Established, and
// one connection.
func TestBothDial(t *testing.T) {
	each(t, func(t *testing.T, o origin) {
		c, _ := Dial(here, there, o.iss, 100)
		d, _ := Dial(there, here, o.irs, 70)
		var states [][2]int
		for range 4 {
			list, other := c.Out(), d.Out()
			for _, g := range list {
				d.In(g)
			}
			for _, g := range other {
				c.In(g)
			}
			states = append(states, [2]int{c.State(), d.State()})
		}
		want := [][2]int{
			{api.SynRcvd, api.SynRcvd}, {api.SynRcvd, api.SynRcvd}, {api.Established, api.Established},
			{api.Established, api.Established},
		}
		for i := range want {
			if states[i] != want[i] {
				t.Fatalf("the states are %v", states)
			}
		}
		c.Write("hello")
		d.Write("there")
		for _, g := range c.Out() {
			d.In(g)
		}
		for _, g := range d.Out() {
			c.In(g)
		}
		if s, _, _ := c.Read(9); s != "there" {
			t.Errorf("it reads %q", s)
		}
		if s, _, _ := d.Read(9); s != "hello" {
			t.Errorf("it reads %q", s)
		}
	})
}

// TestBothDialAndOneIsLate: one SYN is lost, so that the other one goes its way
// alone, and is answered by an Ack.
func TestBothDialAndOneIsLate(t *testing.T) {
	each(t, func(t *testing.T, o origin) {
		c, _ := Dial(here, there, o.iss, 100)
		d, _ := Dial(there, here, o.irs, 70)
		c.Out() // it is lost
		for _, g := range d.Out() {
			c.In(g)
		}
		for _, g := range c.Out() {
			d.In(g)
		}
		if c.State() != api.SynRcvd || d.State() != api.Established {
			t.Fatal(c.State(), d.State())
		}
		for _, g := range d.Out() {
			c.In(g)
		}
		if c.State() != api.Established || len(c.Out()) != 0 {
			t.Error(c.State())
		}
	})
}
