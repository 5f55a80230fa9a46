package conn

import (
	"math"
	"testing"

	"packetboat/api"
)

// acts are what may befall a trial that was brought somewhere: of each kind
// those around where it is.
func acts() []func(x *trial) {
	list := []func(x *trial){
		func(x *trial) { x.out() },
		func(x *trial) { x.tick(3) },
		func(x *trial) { x.tick(20) },
		func(x *trial) { x.write("hello") },
		func(x *trial) { x.read(2) },
		func(x *trial) { x.close() },
		func(x *trial) { x.abort() },
	}
	for _, at := range []int{-1, 0, 1} {
		for _, ack := range []int{-1, 0, 1} {
			list = append(list, func(x *trial) { x.in(x.near(at, ack, 2, "ab")) })
			list = append(list, func(x *trial) { x.in(withFin(x.near(at, ack, 0, ""))) })
		}
		list = append(list, func(x *trial) { x.in(x.near(at, 0, x.slow.wnd, "")) })
		list = append(list, func(x *trial) { x.in(x.rstNear(at, true)) })
		list = append(list, func(x *trial) { x.in(x.rstNear(at, false)) })
		list = append(list, func(x *trial) { x.in(x.synNear(at, true)) })
		list = append(list, func(x *trial) { x.in(x.synNear(at, false)) })
	}
	return list
}

// lacks is the first place that lacks, 0, if no SYN has come.
func (x *trial) lacks() int {
	if x.slow.in == nil {
		return 0
	}
	return x.slow.in.Next()
}

// near is a segment at so far from what lacks, with an ACK at so far from what
// went out.
func (x *trial) near(at, ack, win int, body string) api.Seg {
	return x.comes(x.lacks()+at, x.slow.out.Sent()+ack, win, body)
}

func (x *trial) rstNear(at int, acks bool) api.Seg {
	g := x.near(at, 0, 9, "")
	g.Rst = true
	return withoutAck(g, acks)
}

func (x *trial) synNear(at int, acks bool) api.Seg {
	g := x.near(at, 0, 9, "")
	g.Syn, g.Mss = true, 60
	return withoutAck(g, acks)
}

// withoutAck is g, without its Ack, but if that stays.
func withoutAck(g api.Seg, stays bool) api.Seg {
	if !stays {
		g.HasAck, g.Ack = false, 0
	}
	return g
}

// TestAllShortStories: each act behind each other one, in each state.
func TestAllShortStories(t *testing.T) {
	list := acts()
	for _, o := range []origin{{1000, 5000}, {1<<32 - 2, 1<<32 - 2}} {
		for _, p := range places {
			for _, first := range list {
				for _, second := range list {
					x, _ := brought(t, o, p.state)
					first(x)
					second(x)
					x.out()
					x.tick(3)
					x.out()
				}
			}
		}
	}
}

// tale is a long story that is drawn. From so many steps on nothing comes, as if
// the other side were gone.
type tale struct {
	lot
	*trial
	gone int
}

// begin draws where the numbers begin, and how.
func (l lot) begin(t *testing.T) *tale {
	t.Helper()
	o := origin{uint32(l.draw(round)), uint32(l.draw(round))}
	if l.draw(2) == 0 {
		o = origin{uint32(round - l.draw(3000)), uint32(round - l.draw(3000))}
	}
	mss, gone := []int{8, 9, 20, 100, 536, 1000}[l.draw(6)], l.draw(300)
	if l.draw(2) == 0 {
		return &tale{l, dial(t, o, mss), gone}
	}
	told := []int{0, 1, 8, 50, 536, 1460, 65535}[l.draw(7)]
	return &tale{l, take(t, o, mss, l.win(1000), told), gone}
}

// win draws a window: often the one that was told last.
func (l *lot) win(last int) int {
	switch l.draw(8) {
	case 0:
		return 0
	case 1:
		return l.draw(20)
	case 2:
		return l.draw(3000)
	case 3:
		return 65535
	}
	return last
}

// text draws one, seldom a long one.
func (l *lot) text(most int) string {
	n := l.draw(10)
	if l.draw(4) == 0 {
		n = l.draw(most + 1)
	}
	return long(n)
}

// seg draws what comes: mostly what lies where the connection waits for it.
func (y *tale) seg() api.Seg {
	at, ack := y.lacks(), y.slow.out.Sent()
	win, room := y.slow.wnd, 2048
	if y.slow.in != nil {
		room = y.slow.in.Window()
	}
	switch y.draw(10) {
	case 0, 1:
		at += y.draw(7) - 3
	case 2:
		at += room + y.draw(5) - 2
	case 3:
		at += y.draw(2*room+2) - room
	}
	switch y.draw(8) {
	case 0, 1:
		ack = y.slow.out.Una()
	case 2:
		ack = y.slow.out.Una() + y.draw(ack-y.slow.out.Una()+4) - 2
	case 3:
		ack += y.draw(3) - 1
	}
	g := y.comes(at, ack, y.win(win), "")
	if y.draw(2) == 0 {
		g.Body = y.text(1000)
	}
	return y.flags(g)
}

// flags draws those of g; where a SYN is waited for that mostly is one.
func (y *tale) flags(g api.Seg) api.Seg {
	begins := y.slow.state == api.SynSent
	switch n := y.draw(60); {
	case begins && n < 35 || n == 0:
		g.Syn, g.Mss = true, []int{0, 7, 100}[y.draw(3)]
	case n < 38:
		g.Fin = y.draw(10) == 0
	case n == 38:
		g.Rst = true
	}
	return withoutAck(g, y.draw(20) > 0)
}

// wrong draws a call that is out of its bounds, or comes from elsewhere.
func (y *tale) wrong() {
	g := y.seg()
	switch y.draw(8) {
	case 0:
		g.From.Port++
	case 1:
		g.To.Addr--
	case 2:
		g.Win = -1
	case 3:
		g.Fin, g.Rst = true, true
	case 4:
		g.Body = long(1001)
	case 5:
		y.tick(-1)
	case 6:
		y.tick(math.MaxInt)
	case 7:
		y.read(-1)
	}
	y.in(g)
}

// step lets something befall that is drawn.
func (y *tale) step() {
	n := y.draw(100)
	if len(y.story) > y.gone && n < 45 {
		n = 60 + n/2
	}
	switch {
	case n < 42:
		y.in(y.seg())
	case n < 45:
		y.wrong()
	case n < 70:
		y.out()
	case n < 83:
		y.tick([]int{0, 1, 2, 3, 4, 6, 8, 20, 64, 1 << 20}[y.draw(10)])
	case n < 90:
		y.write(y.text(2500))
	case n < 97:
		y.read(y.draw(1500))
	case n < 99:
		y.close()
	case y.draw(12) == 0:
		y.abort()
	}
}

// TestLongStories holds long ones against the slow connection, and sees to it
// that they lead everywhere.
func TestLongStories(t *testing.T) {
	states, whys := map[int]int{}, map[api.Errno]int{}
	var l lot = 88172645463325252
	for range 6000 {
		l.draw(2)
		y := l.begin(t)
		for range 20 + y.draw(150) {
			y.step()
			states[y.conn.State()]++
		}
		whys[y.conn.Why()]++
	}
	for _, p := range places {
		if states[p.state] < 2000 {
			t.Errorf("state %d was reached %d times", p.state, states[p.state])
		}
	}
	for _, e := range []api.Errno{api.OK, api.ErrPipe, api.ErrReset, api.ErrRefused, api.ErrTimeout} {
		if whys[e] < 20 {
			t.Errorf("why was %d %d times", e, whys[e])
		}
	}
}
