package conn

import "packetboat/api"

// Out is what goes out now, in order.
func (c *Conn) Out() []api.Seg {
	list := c.takeRsts()
	if c.state != api.Closed {
		list = append(list, c.takePieces()...)
	}
	c.lookAtClock()
	return list
}

// takeRsts is each Rst that was asked for.
func (c *Conn) takeRsts() []api.Seg {
	var list []api.Seg
	for _, number := range c.asked.rsts {
		list = append(list, api.Seg{From: c.local, To: c.remote, Seq: number, Rst: true})
	}
	c.asked.rsts = nil
	return list
}

// takePieces is what may go out of the queue, and, if that is nothing, an ACK
// alone, if one is owed.
func (c *Conn) takePieces() []api.Seg {
	list := c.takeFirst()
	limit := c.limit()
	for {
		sent := c.out.Sent()
		p, is := c.out.Next(limit, c.mss)
		if !is {
			break
		}
		if p.At == sent {
			c.measure()
		}
		list = append(list, c.carry(p))
	}
	c.asked.probe = false
	if len(list) == 0 && c.asked.ack {
		list = append(list, c.carry(api.Piece{At: c.out.Sent()}))
	}
	c.asked.ack = false
	return list
}

// takeFirst is the first that is not acknowledged, if it was asked for.
func (c *Conn) takeFirst() []api.Seg {
	if !c.asked.again {
		return nil
	}
	c.asked.again = false
	p, is := c.out.First(c.mss)
	if !is {
		return nil
	}
	return []api.Seg{c.carry(p)}
}

// limit is the place behind the last one that may go out: SYN alone, until it
// is acknowledged.
func (c *Conn) limit() int {
	una := c.out.Una()
	if una == 0 {
		return 1
	}
	many := min(c.wnd, c.window.Size())
	if c.asked.probe {
		many = max(many, 1)
	}
	return una + many
}

// measure notes the piece that has just gone out of the queue, which never had
// before: of one that had nobody could tell which of the two is answered.
func (c *Conn) measure() {
	if c.measured.behind == 0 {
		c.measured = measured{behind: c.out.Cur(), since: c.time}
	}
}

// carry is the segment with which p goes out.
func (c *Conn) carry(p api.Piece) api.Seg {
	g := api.Seg{
		From: c.local,
		To:   c.remote,
		Seq:  c.number(p.At),
		Syn:  p.Syn,
		Fin:  p.Fin,
		Win:  api.MaxIn,
		Body: p.Body,
	}
	if p.Syn {
		g.Mss = c.told
	}
	if c.in != nil {
		g.HasAck, g.Ack, g.Win = true, c.next(), c.in.Window()
	}
	return g
}
