package conn

import (
	"packetboat/api"
	"packetboat/seq"
	"packetboat/tcp"
)

// In takes g in, which came; what Check says of it, ErrProto, if it is not of
// these two ends, ErrState, if the connection is Closed.
func (c *Conn) In(g api.Seg) api.Errno {
	if e := tcp.Check(g); e != api.OK {
		return e
	}
	switch {
	case g.From != c.remote || g.To != c.local:
		return api.ErrProto
	case c.state == api.Closed:
		return api.ErrState
	case c.state == api.SynSent:
		c.inSynSent(g)
	default:
		c.inLater(g)
	}
	c.lookAtClock()
	return api.OK
}

// inSynSent takes g in where a SYN is waited for.
func (c *Conn) inSynSent(g api.Seg) {
	switch {
	case g.HasAck && (g.Ack != c.number(1) || c.out.Sent() == 0):
		if !g.Rst {
			c.askRst(g.Ack)
		}
	case g.Rst:
		if g.HasAck {
			c.end(api.ErrRefused)
		}
	case g.Syn:
		c.meet(g)
		c.answerSyn(g.HasAck)
	}
}

// answerSyn goes on behind the other side's SYN, which may have acknowledged
// that of this one.
func (c *Conn) answerSyn(acks bool) {
	if !acks {
		c.state = api.SynRcvd
		c.out.Back()
		return
	}
	c.acknowledged(1)
	c.state = api.Established
	c.asked.ack = true
}

// inLater takes g in once SYN has come.
func (c *Conn) inLater(g api.Seg) {
	next := c.next()
	switch {
	case !seq.Accept(g.Seq, tcp.Length(g), next, c.in.Window()):
		c.turnAway(g)
	case g.Rst && g.Seq == next:
		c.breakOff()
	case g.Rst, g.Syn:
		// Who has the connection will answer an ACK by a Rst that fits; who
		// hasn't, and guesses, gets nowhere.
		c.asked.ack = true
	case g.HasAck:
		c.follow(g)
	}
}

// turnAway takes in that g is not let in.
func (c *Conn) turnAway(g api.Seg) {
	if !g.Rst {
		c.asked.ack = true
	}
	c.waitAnew(g)
}

// waitAnew lets TimeWait begin anew if g is a Fin: its answer was lost.
func (c *Conn) waitAnew(g api.Seg) {
	if c.state == api.TimeWait && g.Fin {
		c.wait()
	}
}

// breakOff takes in that the other side broke off.
func (c *Conn) breakOff() {
	if c.state == api.TimeWait {
		c.end(api.OK)
	} else {
		c.end(api.ErrReset)
	}
}

// follow takes in what g acknowledges, and what it has.
func (c *Conn) follow(g api.Seg) {
	ack := seq.Near(g.Ack-c.iss, c.out.Una())
	place := seq.Near(g.Seq-c.irs, c.in.Next())
	if !c.mayAcknowledge(g.Ack, ack) {
		return
	}
	c.takeAck(g, ack, place)
	c.ripen()
	if c.state != api.Closed {
		c.takeBody(g, place)
	}
}

// mayAcknowledge tells whether ack, which came as number, is of something that
// went out. By that the other side has answered SYN.
func (c *Conn) mayAcknowledge(number uint32, ack int) bool {
	first := c.state == api.SynRcvd
	switch {
	case first && (ack < 1 || ack > c.out.Sent()):
		c.askRst(number)
		return false
	case ack > c.out.Sent():
		c.asked.ack = true
		return false
	case first && c.ended:
		c.state = api.FinWait1
	case first:
		c.state = api.Established
	}
	return true
}

// takeAck takes in what g, which lies at place, says of what went out: that all
// ahead of ack has come, and its window.
func (c *Conn) takeAck(g api.Seg, ack, place int) {
	una := c.out.Una()
	moves := ack > una
	switch {
	case moves:
		c.acknowledged(ack)
	case ack == una && tcp.Length(g) == 0 && c.flight() > 0 && g.Win == c.wnd:
		c.onceMore()
	}
	// The ACK of the segment that told the window last need not be kept: it is
	// not above Una, and so one that is Una is never below it.
	if moves || ack == una && place >= c.wndPlace {
		c.wnd, c.wndPlace = g.Win, place
	}
}

// onceMore takes in that the same was acknowledged once more: as that is so for
// the third time, the first that is not is taken for lost.
func (c *Conn) onceMore() {
	c.same++
	if c.same != 3 {
		return
	}
	c.window.Lost(c.flight())
	c.asked.again = true
	c.measured = measured{}
}

// acknowledged takes in that all places ahead of at have come.
func (c *Conn) acknowledged(at int) {
	many := c.out.Ack(at)
	if c.measured.behind > 0 && c.measured.behind <= at {
		c.timer.Sample(c.time - c.measured.since)
		c.measured = measured{}
	}
	c.window.Acked(many)
	c.clock.gone = 0
	c.clock.began = c.time // of no matter, if it runs no more
	c.same = 0
}

// ripen goes on behind the FIN that went out, once it is acknowledged.
func (c *Conn) ripen() {
	if !c.ended || c.out.Una() != c.out.End() {
		return
	}
	switch c.state {
	case api.FinWait1:
		c.state = api.FinWait2
	case api.Closing:
		c.wait()
	case api.LastAck:
		c.end(api.OK)
	}
}

// takeBody takes in what g has at place.
func (c *Conn) takeBody(g api.Seg, place int) {
	switch c.state {
	case api.Established, api.FinWait1, api.FinWait2:
		c.in.Put(place, g.Body, g.Fin)
		if c.in.Over() {
			c.heardAll()
		}
	default:
		c.waitAnew(g)
	}
	if tcp.Length(g) > 0 {
		c.asked.ack = true
	}
}

// heardAll goes on behind the other side's FIN.
func (c *Conn) heardAll() {
	switch c.state {
	case api.Established:
		c.state = api.CloseWait
	case api.FinWait1:
		c.state = api.Closing
	case api.FinWait2:
		c.wait()
	}
}
