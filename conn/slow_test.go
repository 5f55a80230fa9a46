package conn

import (
	"packetboat/api"
	"packetboat/cong"
	"packetboat/inq"
	"packetboat/outq"
	"packetboat/rto"
	"packetboat/tcp"
)

// slowConn is a connection as the chapter's sentences have it, one behind the
// other. It has numbers as whole ones, of which it cuts what is to go out.
type slowConn struct {
	local, remote api.End
	state         int
	why           api.Errno
	mss, least    int // the chapter's mss and MSS
	iss, irs      int
	out           *outq.Queue
	closed        bool
	in            *inq.Queue
	wnd           int
	wndPlace      int
	wndAck        int
	timer         *rto.Timer
	window        *cong.Window
	now           int
	clock         int // when it began; -1: it doesn't run
	gone          int
	ends          int
	measured      bool
	place, since  int
	same          int
	rsts          []uint32
	again         bool
	probe         bool
	owed          bool
}

// round is how many numbers there are.
const round = 1 << 32

func cut(n int) uint32 {
	return uint32(((n % round) + round) % round)
}

// nearest is the whole number of which n is what is left that is nearest to at.
func nearest(n uint32, at int) int {
	best := int(n) - 3*round
	for k := -2; k <= 3; k++ {
		other := int(n) + k*round
		if distance(other, at) < distance(best, at) {
			best = other
		}
	}
	return best
}

func distance(a, b int) int {
	if a < b {
		return b - a
	}
	return a - b
}

func badPort(e api.End) bool {
	return e.Port < 1 || e.Port > 65535
}

func slowDial(local, remote api.End, iss uint32, mss int) (*slowConn, api.Errno) {
	if badPort(local) || badPort(remote) || mss < 8 || mss > 1000 {
		return nil, api.ErrArg
	}
	w, _ := cong.New(mss)
	return &slowConn{
		local: local, remote: remote, state: api.SynSent, mss: mss, least: mss,
		iss: int(iss), out: outq.New(), timer: rto.New(), window: w, clock: -1,
	}, api.OK
}

func slowTake(local api.End, g api.Seg, iss uint32, mss int) (*slowConn, api.Errno) {
	if badPort(local) || mss < 8 || mss > 1000 {
		return nil, api.ErrArg
	}
	if e := tcp.Check(g); e != api.OK {
		return nil, e
	}
	if g.To != local {
		return nil, api.ErrProto
	}
	if !(g.Syn && !g.HasAck) {
		return nil, api.ErrState
	}
	s, _ := slowDial(local, g.From, iss, mss)
	s.syn(g)
	s.state = api.SynRcvd
	return s, api.OK
}

func (s *slowConn) syn(g api.Seg) {
	s.irs = int(g.Seq)
	s.in = inq.New()
	s.wnd = g.Win
	other := g.Mss
	if other == 0 {
		other = 536
	}
	if other < 8 {
		other = 8
	}
	if s.least = s.mss; other < s.mss {
		s.least = other
	}
	s.window, _ = cong.New(s.least)
	s.wndPlace, s.wndAck = 0, 0
}

// look is what is done at the end of each call.
func (s *slowConn) look() {
	runs := s.out.Cur() > s.out.Una()
	if s.wnd == 0 && s.out.Una() > 0 && s.out.Cur() < s.out.End() {
		runs = true
	}
	if s.state == api.Closed || s.state == api.TimeWait {
		runs = false
	}
	if !runs {
		s.clock = -1
	} else if s.clock == -1 {
		s.clock = s.now
	}
}

func (s *slowConn) seg(p api.Piece) api.Seg {
	g := api.Seg{From: s.local, To: s.remote, Seq: cut(s.iss + p.At), Syn: p.Syn, Fin: p.Fin, Body: p.Body, Win: 2048}
	if s.state != api.SynSent {
		g.HasAck = true
		g.Ack = cut(s.irs + s.in.Next())
		g.Win = s.in.Window()
	}
	if p.Syn {
		g.Mss = s.mss
	}
	return g
}

func (s *slowConn) goOut() []api.Seg {
	defer s.look()
	var list []api.Seg
	for _, n := range s.rsts {
		list = append(list, api.Seg{From: s.local, To: s.remote, Seq: n, Rst: true})
	}
	s.rsts = nil
	if s.state == api.Closed {
		return list
	}
	pieces := 0
	if s.again {
		s.again = false
		if p, is := s.out.First(s.least); is {
			list = append(list, s.seg(p))
			pieces++
		}
	}
	limit := 1
	if una := s.out.Una(); una > 0 {
		limit = una + s.wnd
		if s.window.Size() < s.wnd {
			limit = una + s.window.Size()
		}
		if s.probe && limit < una+1 {
			limit = una + 1
		}
	}
	for {
		sent := s.out.Sent()
		p, is := s.out.Next(limit, s.least)
		if !is {
			break
		}
		if p.At == sent && !s.measured {
			s.measured, s.since = true, s.now
			s.place = p.At + len(p.Body)
			if p.Syn || p.Fin {
				s.place++
			}
		}
		list = append(list, s.seg(p))
		pieces++
	}
	s.probe = false
	if pieces == 0 && s.owed {
		list = append(list, s.seg(api.Piece{At: s.out.Sent()}))
		pieces++
	}
	if pieces > 0 {
		s.owed = false
	}
	return list
}

func (s *slowConn) tick(n int) api.Errno {
	if n < 0 || n > api.MaxTime || s.now+n > api.MaxTime {
		return api.ErrArg
	}
	defer s.look()
	s.now += n
	if s.state == api.TimeWait {
		if s.now >= s.ends {
			s.state = api.Closed
		}
		return api.OK
	}
	if s.clock == -1 || s.now < s.clock+s.timer.Value() {
		return api.OK
	}
	if s.gone == 8 {
		s.state, s.why = api.Closed, api.ErrTimeout
		return api.OK
	}
	s.gone++
	s.timer.Late()
	s.clock = s.now
	if s.out.Cur() > s.out.Una() {
		s.window.Silent(s.out.Cur() - s.out.Una())
		s.out.Back()
		s.measured = false
	} else {
		s.probe = true
	}
	return api.OK
}

func (s *slowConn) acknowledged(at int) {
	n := s.out.Ack(at)
	if s.measured && s.place <= at {
		s.timer.Sample(s.now - s.since)
		s.measured = false
	}
	s.window.Acked(n)
	s.gone, s.same = 0, 0
	if s.clock != -1 {
		s.clock = s.now
	}
}

func (s *slowConn) comes(g api.Seg) api.Errno {
	if e := tcp.Check(g); e != api.OK {
		return e
	}
	if g.From != s.remote || g.To != s.local {
		return api.ErrProto
	}
	if s.state == api.Closed {
		return api.ErrState
	}
	defer s.look()
	if s.state == api.SynSent {
		s.atFirst(g)
	} else {
		s.later(g)
	}
	return api.OK
}

func (s *slowConn) atFirst(g api.Seg) {
	if g.HasAck {
		if g.Ack != cut(s.iss+1) || s.out.Sent() == 0 {
			if !g.Rst {
				s.rsts = append(s.rsts, g.Ack)
			}
			return
		}
	}
	if g.Rst {
		if g.HasAck {
			s.state, s.why = api.Closed, api.ErrRefused
		}
		return
	}
	if !g.Syn {
		return
	}
	s.syn(g)
	if g.HasAck {
		s.acknowledged(1)
		s.state = api.Established
		s.owed = true
	} else {
		s.state = api.SynRcvd
		s.out.Back()
	}
}

// letIn looks whether one of the places that are let in is g's first or last
// one; a g without any stands for its first.
func (s *slowConn) letIn(g api.Seg, place int) bool {
	next, behind := s.in.Next(), s.in.Next()+s.in.Window()
	n := tcp.Length(g)
	if n == 0 && next == behind {
		return place == next
	}
	if n == 0 {
		n = 1
	}
	last := place + n - 1
	return place >= next && place < behind || last >= next && last < behind
}

func (s *slowConn) wait() {
	s.state, s.ends = api.TimeWait, s.now+20
}

func (s *slowConn) later(g api.Seg) {
	place := nearest(cut(int(g.Seq)-s.irs), s.in.Next())
	if !s.letIn(g, place) {
		if !g.Rst {
			s.owed = true
		}
		if s.state == api.TimeWait && g.Fin {
			s.wait()
		}
		return
	}
	if g.Rst {
		if place != s.in.Next() {
			s.owed = true
			return
		}
		if s.state != api.TimeWait {
			s.why = api.ErrReset
		}
		s.state = api.Closed
		return
	}
	if g.Syn {
		s.owed = true
		return
	}
	if g.HasAck {
		s.acks(g, place, nearest(cut(int(g.Ack)-s.iss), s.out.Una()))
	}
}

func (s *slowConn) acks(g api.Seg, place, ack int) {
	if s.state == api.SynRcvd {
		if ack < 1 || ack > s.out.Sent() {
			s.rsts = append(s.rsts, g.Ack)
			return
		}
		s.state = api.Established
		if s.closed {
			s.state = api.FinWait1
		}
	}
	if ack > s.out.Sent() {
		s.owed = true
		return
	}
	moved := false
	if ack > s.out.Una() {
		s.acknowledged(ack)
		moved = true
	} else if ack == s.out.Una() && tcp.Length(g) == 0 && s.out.Cur() > s.out.Una() && g.Win == s.wnd {
		if s.same++; s.same == 3 {
			s.window.Lost(s.out.Cur() - s.out.Una())
			s.again = true
			s.measured = false
		}
	}
	newer := place > s.wndPlace || place == s.wndPlace && ack >= s.wndAck
	if moved || ack == s.out.Una() && newer {
		s.wnd, s.wndPlace, s.wndAck = g.Win, place, ack
	}
	s.body(g, place)
}

func (s *slowConn) body(g api.Seg, place int) {
	if s.closed && s.out.Una() == s.out.End() {
		switch s.state {
		case api.FinWait1:
			s.state = api.FinWait2
		case api.Closing:
			s.wait()
		case api.LastAck:
			s.state = api.Closed
			return
		}
	}
	switch s.state {
	case api.Established, api.FinWait1, api.FinWait2:
		s.in.Put(place, g.Body, g.Fin)
		if !s.in.Over() {
			break
		}
		switch s.state {
		case api.Established:
			s.state = api.CloseWait
		case api.FinWait1:
			s.state = api.Closing
		case api.FinWait2:
			s.wait()
		}
	case api.TimeWait:
		if g.Fin {
			s.wait()
		}
	}
	if tcp.Length(g) > 0 {
		s.owed = true
	}
}

func (s *slowConn) write(text string) (int, api.Errno) {
	if s.state == api.Closed {
		if s.why != api.OK {
			return 0, s.why
		}
		return 0, api.ErrPipe
	}
	if s.closed {
		return 0, api.ErrPipe
	}
	defer s.look()
	n := s.out.Write(text)
	if n == 0 && len(text) > 0 {
		return 0, api.ErrAgain
	}
	return n, api.OK
}

func (s *slowConn) read(most int) (string, bool, api.Errno) {
	if s.in != nil && s.in.Ready() > 0 {
		return s.in.Read(most), false, api.OK
	}
	if s.in != nil && s.in.Over() {
		return "", true, api.OK
	}
	if s.state == api.Closed {
		return "", s.why == api.OK, s.why
	}
	return "", false, api.ErrAgain
}

func (s *slowConn) close() api.Errno {
	if s.state == api.Closed {
		return api.ErrState
	}
	if s.closed {
		return api.ErrPipe
	}
	defer s.look()
	if s.state == api.SynSent {
		s.state = api.Closed
		return api.OK
	}
	s.out.Close()
	s.closed = true
	if s.state == api.Established {
		s.state = api.FinWait1
	}
	if s.state == api.CloseWait {
		s.state = api.LastAck
	}
	return api.OK
}

func (s *slowConn) abort() api.Errno {
	if s.state == api.Closed {
		return api.ErrState
	}
	defer s.look()
	if s.state != api.SynSent && s.state != api.TimeWait {
		s.rsts = append(s.rsts, cut(s.iss+s.out.Sent()))
	}
	s.state, s.why = api.Closed, api.ErrPipe
	return api.OK
}

func (s *slowConn) ready() int {
	mask := 0
	if s.state == api.Closed || s.in != nil && (s.in.Ready() > 0 || s.in.Over()) {
		mask |= 1
	}
	if (s.state == api.Established || s.state == api.CloseWait) && s.out.Room() > 0 {
		mask |= 2
	}
	if s.state == api.Closed && s.why != api.OK {
		mask |= 4
	}
	return mask
}

func slowRefuse(g api.Seg) (api.Seg, bool) {
	if tcp.Check(g) != api.OK || g.Rst {
		return api.Seg{}, false
	}
	if g.HasAck {
		return api.Seg{From: g.To, To: g.From, Seq: g.Ack, Rst: true}, true
	}
	return api.Seg{From: g.To, To: g.From, HasAck: true, Ack: cut(int(g.Seq) + tcp.Length(g)), Rst: true}, true
}
