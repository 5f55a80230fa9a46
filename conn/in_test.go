package conn

import (
	"strings"
	"testing"

	"packetboat/api"
)

// P31

func TestInTellsFirst(t *testing.T) {
	elsewhere := func(g *api.Seg) { g.From.Port++ }
	otherAddr := func(g *api.Seg) { g.From.Addr++ }
	badPort := func(g *api.Seg) { g.From.Port = 0 }
	badAck := func(g *api.Seg) { g.HasAck, g.Ack = false, 1 }
	for _, k := range []struct {
		name         string
		change       []func(g *api.Seg)
		open, closed api.Errno
	}{
		{"all is well", nil, api.OK, api.ErrState},
		{"a window too great", []func(*api.Seg){badWin}, api.ErrArg, api.ErrArg},
		{"no Port", []func(*api.Seg){badPort}, api.ErrArg, api.ErrArg},
		{"an Mss without Syn", []func(*api.Seg){func(g *api.Seg) { g.Mss = 9 }}, api.ErrForm, api.ErrForm},
		{"Fin and Rst", []func(*api.Seg){badForm, badReset}, api.ErrForm, api.ErrForm},
		{"an Ack alone", []func(*api.Seg){badAck}, api.ErrForm, api.ErrForm},
		{"too long", []func(*api.Seg){badLength}, api.ErrLarge, api.ErrLarge},
		{"from another Port", []func(*api.Seg){elsewhere}, api.ErrProto, api.ErrProto},
		{"from another Addr", []func(*api.Seg){otherAddr}, api.ErrProto, api.ErrProto},
		{"to another Port", []func(*api.Seg){badTo}, api.ErrProto, api.ErrProto},
		{"to another Addr", []func(*api.Seg){badAddr}, api.ErrProto, api.ErrProto},
		{"too long, and from elsewhere", []func(*api.Seg){badLength, elsewhere}, api.ErrLarge, api.ErrLarge},
		{"out of its form, and to elsewhere", []func(*api.Seg){badAck, badTo}, api.ErrForm, api.ErrForm},
	} {
		eachState(t, places, func(x *trial, p place) {
			g := withFin(x.comes(p.next, p.sent, 5, "abc"))
			if k.name == "Fin and Rst" {
				g.Fin = false
			}
			for _, f := range k.change {
				f(&g)
			}
			want := k.open
			if p.state == api.Closed {
				want = k.closed
			}
			if got := x.in(g); got != want {
				t.Errorf("%s: it says %d, not %d", k.name, got, want)
			}
			if want != api.OK {
				x.is(p.state)
				x.sends()
			}
		})
	}
}

// TestFromHere: what goes the other way round is of no matter.
func TestFromHere(t *testing.T) {
	eachState(t, places, func(x *trial, p place) {
		g := x.goes(p.next, p.sent, usualWin, "abc")
		x.says(x.in(g), api.ErrProto)
		x.is(p.state)
		x.sends()
	})
}

// TestInSynSent: what comes of each kind of segment, of which some has an Ack.
func TestInSynSent(t *testing.T) {
	type come struct {
		state int
		why   api.Errno
		rst   bool // whether there goes one with Seq Ack
	}
	stays, refused := come{api.SynSent, api.OK, false}, come{api.Closed, api.ErrRefused, false}
	rst := come{api.SynSent, api.OK, true}
	for _, k := range []struct {
		name     string
		syn, rst bool
		fin      bool
		ack      int // -1: none
		want     come
	}{
		{"nothing", false, false, false, -1, stays},
		{"an ACK", false, false, false, 1, stays},
		{"an ACK of 0", false, false, false, 0, rst},
		{"an ACK too great", false, false, false, 2, rst},
		{"an ACK far away", false, false, false, 1 << 31, rst},
		{"a FIN", false, false, true, -1, stays},
		{"a FIN with an ACK", false, false, true, 1, stays},
		{"a FIN with another ACK", false, false, true, 2, rst},
		{"a Rst", false, true, false, -1, stays},
		{"a Rst with the ACK", false, true, false, 1, refused},
		{"a Rst with ACK 0", false, true, false, 0, stays},
		{"a Rst with ACK 2", false, true, false, 2, stays},
		{"a SYN", true, false, false, -1, come{api.SynRcvd, api.OK, false}},
		{"a SYN with the ACK", true, false, false, 1, come{api.Established, api.OK, false}},
		{"a SYN with ACK 0", true, false, false, 0, rst},
		{"a SYN with ACK 2", true, false, false, 2, rst},
	} {
		each(t, func(t *testing.T, o origin) {
			x, _ := brought(t, o, api.SynSent)
			g := x.bare(0, usualWin, "")
			g.Syn, g.Rst, g.Fin = k.syn, k.rst, k.fin
			if k.ack >= 0 {
				g.HasAck, g.Ack = true, o.iss+uint32(k.ack)
			}
			x.says(x.in(g), api.OK)
			x.is(k.want.state)
			x.says(x.conn.Why(), k.want.why)
			if k.want.rst {
				x.sends(x.breaks(k.ack))
			}
			switch k.want.state {
			case api.SynRcvd:
				want := x.goes(0, 1, 2048, "")
				want.Syn, want.Mss = true, usualMss
				x.sends(want)
			case api.Established:
				x.sends(x.goes(1, 1, 2048, ""))
			}
			x.sends()
		})
	}
}

// TestAheadOfTheSyn: as long as nothing went out, no Ack is of it.
func TestAheadOfTheSyn(t *testing.T) {
	each(t, func(t *testing.T, o origin) {
		syn := api.Seg{From: here, To: there, Seq: o.iss, Syn: true, Win: 2048, Mss: usualMss}

		x := dial(t, o, usualMss)
		g := x.syn(usualWin, 0)
		g.HasAck, g.Ack = true, o.iss+1
		x.in(g)
		x.is(api.SynSent)
		x.sends(x.breaks(1), syn)

		x = dial(t, o, usualMss)
		g = x.reset(0)
		g.HasAck, g.Ack = true, o.iss+1
		x.in(g)
		x.is(api.SynSent)
		x.sends(syn)

		x = dial(t, o, usualMss)
		x.in(x.reset(0))
		x.is(api.SynSent)
		x.in(x.syn(usualWin, 0)) // it has no Ack
		x.is(api.SynRcvd)
		syn.HasAck, syn.Ack = true, o.irs+1
		x.sends(syn)
	})
}

// TestRefusedTwice: a RST is asked for anew each time.
func TestRefusedTwice(t *testing.T) {
	each(t, func(t *testing.T, o origin) {
		x, _ := brought(t, o, api.SynSent)
		x.in(x.comes(0, 9, usualWin, "abc"))
		x.in(x.comes(0, 9, usualWin, "abc"))
		x.sends(x.breaks(9), x.breaks(9))
		x.sends()
	})
}

// P32

// TestLetIn, step 1, sees by a Rst that isn't at the next place whether it is let
// in: it is owed an ACK then, else nothing.
func TestLetIn(t *testing.T) {
	for _, k := range []struct {
		win, at int
		is      bool
	}{
		{2048, -1, false}, {2048, 1, true}, {2048, 2047, true}, {2048, 2048, false}, {2048, 1 << 31, false},
		{1000, -1, false}, {1000, 1, true}, {1000, 999, true}, {1000, 1000, false}, {1000, -1 << 31, false},
		{2, -1, false}, {2, 1, true}, {2, 2, false},
		{1, -1, false}, {1, 1, false},
		{0, -1, false}, {0, 1, false},
	} {
		each(t, func(t *testing.T, o origin) {
			x, next := narrowed(t, o, k.win)
			x.in(x.reset(next + k.at))
			x.is(api.Established)
			if k.is {
				x.sends(x.goes(1, next, k.win, ""))
			}
			x.sends()
		})
	}
}

// narrowed is a trial that lets just so many in, and the place that is next.
func narrowed(t *testing.T, o origin, win int) (*trial, int) {
	t.Helper()
	x := open(t, o, usualMss, usualWin)
	next := 1
	for many := api.MaxIn - win; many > 0; {
		n := min(many, 1000)
		x.in(x.comes(next, 1, usualWin, long(n)))
		next, many = next+n, many-n
	}
	x.out()
	return x, next
}

// TestLetInByLength: what has places is let in if its first or its last one is;
// what is not changes nothing.
func TestLetInByLength(t *testing.T) {
	for _, k := range []struct {
		win, at int
		body    string
		fin     bool
		next    int // how much further it is then
	}{
		{2048, 0, "", false, 0}, {2048, 0, "abc", false, 3}, {2048, -1, "a", false, 0}, {2048, -1, "ab", false, 1},
		{2048, -2, "abcde", true, 4}, {2048, -3, "abc", false, 0}, {2048, -3, "abc", true, 1},
		{2, 0, "abcde", false, 2}, {2, 1, "abcde", false, 0}, {2, -1, "abc", false, 2}, {2, -1, "abcd", false, 0},
		{1, 0, "abc", true, 1}, {1, 0, "a", true, 2}, {1, 0, "", true, 1}, {1, -1, "a", true, 1},
		{0, 0, "", false, 0}, {0, 0, "a", false, 0}, {0, -1, "ab", false, 0}, {0, 0, "", true, 0}, {0, 1, "", false, 0},
	} {
		each(t, func(t *testing.T, o origin) {
			x, next := narrowed(t, o, k.win)
			g := x.comes(next+k.at, 1, 77, k.body)
			g.Fin = k.fin
			x.in(g)
			x.write("?")
			got := x.out()
			if len(got) != 1 || got[0].Ack != o.irs+uint32(next+k.next) {
				t.Errorf("of a window of %d, %d %q %v: it goes %+v", k.win, k.at, k.body, k.fin, got)
			}
		})
	}
}

// TestOwedWhenNotLetIn, step 1: an ACK for all but a Rst, in each state.
func TestOwedWhenNotLetIn(t *testing.T) {
	eachState(t, later, func(x *trial, p place) {
		for _, at := range []int{-1, 2048} {
			for _, g := range []api.Seg{
				x.bare(p.next+at, 0, ""),
				x.comes(p.next+at, p.sent, 0, ""),
				x.comes(p.next+at, p.sent+5, 0, "a"),
				withFin(x.comes(p.next+at, p.sent, 0, "")),
			} {
				x.in(g)
				x.is(p.state)
				x.sends(x.goes(p.sent, p.next, 2048, ""))
				x.sends()
			}
			x.in(x.reset(p.next + at))
			x.is(p.state)
			x.sends()
		}
	})
}

// TestNotLetInSaysNothing, step 1: neither what it acknowledges, nor its window,
// nor its Syn is taken in.
func TestNotLetInSaysNothing(t *testing.T) {
	eachState(t, later, func(x *trial, p place) {
		g := x.comes(p.next-1, p.sent, 5, "")
		x.in(g)
		x.is(p.state)
		x.in(x.syn(usualWin, 0)) // place 0 is behind, and so it is not let in
		x.is(p.state)
		x.sends(x.goes(p.sent, p.next, 2048, ""))
		x.sends()
		if got := x.conn.out.Una(); got != p.una {
			x.t.Errorf("Una is %d", got)
		}
	})
}

// TestTimeWaitBeginsAnew, steps 1 and 10: by a FIN, let in or not; by nothing
// else.
func TestTimeWaitBeginsAnew(t *testing.T) {
	for _, k := range []struct {
		name string
		g    func(x *trial, p place) api.Seg
		anew bool
	}{
		{"the FIN once more", func(x *trial, p place) api.Seg { return withFin(x.comes(1, p.sent, 9, "")) }, true},
		{"a FIN without an Ack", func(x *trial, p place) api.Seg { return withFin(x.bare(1, 9, "")) }, true},
		{"a FIN that is let in", func(x *trial, p place) api.Seg { return withFin(x.comes(2, p.sent, 9, "")) }, true},
		{"a FIN let in without an Ack", func(x *trial, p place) api.Seg { return withFin(x.bare(2, 9, "")) }, false},
		{"a FIN let in with an old Ack", func(x *trial, p place) api.Seg { return withFin(x.comes(2, 1, 9, "")) }, true},
		{"a FIN let in with an Ack too great", func(x *trial, p place) api.Seg { return withFin(x.comes(2, 9, 9, "")) }, false},
		{"a FIN far behind", func(x *trial, p place) api.Seg { return withFin(x.comes(9999, p.sent, 9, "")) }, true},
		{"an ACK", func(x *trial, p place) api.Seg { return x.comes(2, p.sent, 9, "") }, false},
		{"a Body", func(x *trial, p place) api.Seg { return x.comes(2, p.sent, 9, "abc") }, false},
		{"an old ACK", func(x *trial, p place) api.Seg { return x.comes(1, p.sent, 9, "") }, false},
		{"a Rst that isn't next", func(x *trial, p place) api.Seg { return x.reset(3) }, false},
		{"a SYN", func(x *trial, p place) api.Seg { return x.syn(9, 0) }, false},
	} {
		eachState(t, []place{places[api.TimeWait]}, func(x *trial, p place) {
			x.tick(15)
			x.says(x.in(k.g(x, p)), api.OK)
			x.is(api.TimeWait)
			x.tick(5)
			if !k.anew {
				x.ended(api.OK)
				return
			}
			x.tick(14)
			x.is(api.TimeWait)
			x.tick(1)
			x.ended(api.OK)
		})
	}
}

// TestRst, step 2: at what is next it ends all, elsewhere it is owed an ACK.
func TestRst(t *testing.T) {
	eachState(t, later, func(x *trial, p place) {
		for _, at := range []int{1, 2, 2047} {
			x.in(x.reset(p.next + at))
			x.is(p.state)
			x.sends(x.goes(p.sent, p.next, 2048, ""))
			x.sends()
		}
		g := x.reset(p.next)
		g.HasAck, g.Ack, g.Win = true, x.iss+77, 9 // of no matter
		x.says(x.in(g), api.OK)
		if p.state == api.TimeWait {
			x.ended(api.OK)
		} else {
			x.ended(api.ErrReset)
		}
		x.sends()
		x.says(x.in(g), api.ErrState)
	})
}

// TestRstWithABody: it is let in by any of its places, but ends only at the
// next one.
func TestRstWithABody(t *testing.T) {
	eachState(t, later, func(x *trial, p place) {
		g := x.reset(p.next - 2)
		g.Body = "abcd"
		x.in(g)
		x.is(p.state)
		x.sends(x.goes(p.sent, p.next, 2048, ""))
		g = x.reset(p.next)
		g.Body = "abcd"
		x.in(g)
		x.is(api.Closed)
	})
}

// TestRstAtAFullQueue: with no room just the next number is let in.
func TestRstAtAFullQueue(t *testing.T) {
	each(t, func(t *testing.T, o origin) {
		x, next := narrowed(t, o, 0)
		x.in(x.reset(next + 1))
		x.in(x.reset(next - 1))
		x.sends()
		x.in(x.reset(next))
		x.ended(api.ErrReset)
	})
}

// TestSyn, step 3: one that is let in is owed an ACK, and says nothing.
func TestSyn(t *testing.T) {
	eachState(t, later, func(x *trial, p place) {
		for _, at := range []int{0, 1, 2047} {
			g := x.bare(p.next+at, 5, "abc")
			g.Syn, g.Mss = true, 9
			x.in(g)
			g.HasAck, g.Ack = true, x.iss+uint32(p.sent)
			x.in(g)
			x.is(p.state)
			x.sends(x.goes(p.sent, p.next, 2048, ""))
			x.sends()
		}
		if got := x.conn.out.Una(); got != p.una {
			x.t.Errorf("Una is %d", got)
		}
	})
}

// TestNoAck, step 4: what doesn't acknowledge says nothing, and is owed nothing.
func TestNoAck(t *testing.T) {
	eachState(t, later, func(x *trial, p place) {
		x.in(x.bare(p.next, 5, ""))
		x.in(x.bare(p.next, 5, "abc"))
		x.in(withFin(x.bare(p.next, 5, "")))
		x.is(p.state)
		x.sends()
		if got := x.conn.out.Una(); got != p.una {
			x.t.Errorf("Una is %d", got)
		}
	})
}

// TestAckInSynRcvd, step 5.
func TestAckInSynRcvd(t *testing.T) {
	for _, k := range []struct {
		ack int
		is  bool
	}{
		{-1, false}, {0, false}, {1, true}, {2, false}, {1 << 30, false}, {1 << 31, false}, {1<<32 - 1, false},
	} {
		eachState(t, []place{places[api.SynRcvd]}, func(x *trial, p place) {
			x.in(x.comes(1, k.ack, usualWin, "abc"))
			if k.is {
				x.is(api.Established)
				x.sends(x.goes(1, 4, 2045, ""))
				x.reads("abc")
				return
			}
			x.is(api.SynRcvd)
			x.sends(x.breaks(k.ack))
			x.sends()
			_, _, e := x.read(9)
			x.says(e, api.ErrAgain)
		})
	}
}

// TestAckAheadOfTheSynRcvd: as long as no SYN went out, no ACK is of it.
func TestAckAheadOfTheSynRcvd(t *testing.T) {
	each(t, func(t *testing.T, o origin) {
		x := take(t, o, usualMss, usualWin, 0)
		x.in(x.comes(1, 1, usualWin, ""))
		x.is(api.SynRcvd)
		syn := x.goes(0, 1, 2048, "")
		syn.Syn, syn.Mss = true, usualMss
		x.sends(x.breaks(1), syn)
	})
}

// TestSynRcvdThatIsEnded, step 5: it is FinWait1 at once, and may be more by the
// same segment.
func TestSynRcvdThatIsEnded(t *testing.T) {
	each(t, func(t *testing.T, o origin) {
		x, _ := brought(t, o, api.SynRcvd)
		x.close()
		x.in(x.comes(1, 2, usualWin, ""))
		x.is(api.SynRcvd)
		x.sends(x.breaks(2))
		x.in(x.comes(1, 1, usualWin, ""))
		x.is(api.FinWait1)
		x.sends(withFin(x.goes(1, 1, 2048, "")))

		x, _ = brought(t, o, api.SynRcvd)
		x.close()
		x.in(withFin(x.comes(1, 1, usualWin, "abc")))
		x.is(api.Closing)
		x.reads("abc")

		x, _ = brought(t, o, api.SynRcvd)
		x.in(withFin(x.comes(1, 1, usualWin, "abc")))
		x.is(api.CloseWait)
	})
}

// TestAckTooGreat, step 6: nobody acknowledges what never went out.
func TestAckTooGreat(t *testing.T) {
	eachState(t, places[api.Established:], func(x *trial, p place) {
		for _, far := range []int{1, 2, 1 << 20, 1<<31 - 9} {
			x.in(withFin(x.comes(p.next, p.sent+far, 5, "abc")))
			x.is(p.state)
			x.sends(x.goes(p.sent, p.next, 2048, ""))
			x.sends()
		}
		if got := x.conn.out.Una(); got != p.una {
			x.t.Errorf("Una is %d", got)
		}
	})
}

// TestAckOfEachPlace, step 7: below Una it is of no matter, up to Sent all ahead
// of it has come.
func TestAckOfEachPlace(t *testing.T) {
	for _, k := range []struct{ ack, una int }{
		{-1, 51}, {0, 51}, {1, 51}, {50, 51}, {51, 51}, {52, 52}, {101, 101}, {150, 150}, {151, 151}, {152, 51},
	} {
		each(t, func(t *testing.T, o origin) {
			x := filled(t, o)
			x.in(x.comes(1, 51, 0, ""))
			x.in(x.comes(1, k.ack, 0, "abc"))
			if got := x.conn.out.Una(); got != k.una {
				t.Errorf("behind ACK %d Una is %d, not %d", k.ack, got, k.una)
			}
		})
	}
}

// TestOldAckBringsABody: what acknowledges nothing new, and less, may have
// something new all the same.
func TestOldAckBringsABody(t *testing.T) {
	each(t, func(t *testing.T, o origin) {
		x := filled(t, o)
		x.in(x.comes(1, 101, 150, ""))
		x.out()
		x.in(x.comes(1, 50, 150, "abc"))
		x.sends(x.goes(201, 4, 2045, ""))
		x.reads("abc")
	})
}

// goesAgain tells whether the first that is not acknowledged goes out now.
func (x *trial) goesAgain(at int) bool {
	x.t.Helper()
	for _, g := range x.out() {
		if g.Seq == x.iss+uint32(at) && g.Body != "" {
			return true
		}
	}
	return false
}

// TestSameOnceMore, step 7: what is the same once more, as the third one, and
// what isn't, so that the one behind it is the third.
func TestSameOnceMore(t *testing.T) {
	for _, k := range []struct {
		name   string
		g      func(x *trial) api.Seg
		counts bool
	}{
		{"the same", func(x *trial) api.Seg { return x.comes(1, 1, 150, "") }, true},
		{"with a place further on", func(x *trial) api.Seg { return x.comes(9, 1, 150, "") }, true},
		{"another window", func(x *trial) api.Seg { return x.comes(1, 1, 149, "") }, false},
		{"a window of 0", func(x *trial) api.Seg { return x.comes(1, 1, 0, "") }, false},
		{"a Body", func(x *trial) api.Seg { return x.comes(1, 1, 150, "a") }, false},
		{"a Body that lies behind a gap", func(x *trial) api.Seg { return x.comes(5, 1, 150, "a") }, false},
		{"a FIN behind a gap", func(x *trial) api.Seg { return withFin(x.comes(5, 1, 150, "")) }, false},
		{"below", func(x *trial) api.Seg { return x.comes(1, 0, 150, "") }, false},
		{"no Ack", func(x *trial) api.Seg { return x.bare(1, 150, "") }, false},
		{"not let in", func(x *trial) api.Seg { return x.comes(0, 1, 150, "") }, false},
		{"above", func(x *trial) api.Seg { return x.comes(1, 152, 150, "") }, false},
		{"a SYN", func(x *trial) api.Seg { g := x.comes(1, 1, 150, ""); g.Syn = true; return g }, false},
	} {
		each(t, func(t *testing.T, o origin) {
			x := filled(t, o)
			x.in(x.comes(1, 1, 150, ""))
			x.in(x.comes(1, 1, 150, ""))
			x.sends()
			x.in(k.g(x))
			if got := x.goesAgain(1); got != k.counts {
				t.Errorf("%s: as the third one it lets something go again: %v", k.name, got)
			}
			x.in(x.comes(2, 1, x.conn.wnd, ""))
			if got := x.goesAgain(1); got == k.counts {
				t.Errorf("%s: what comes behind it is the third one: %v", k.name, got)
			}
		})
	}
}

// TestSameSoOften, step 7: at the third time alone something goes again.
func TestSameSoOften(t *testing.T) {
	each(t, func(t *testing.T, o origin) {
		x := filled(t, o)
		for time := 1; time <= 12; time++ {
			x.in(x.comes(1, 1, 150, ""))
			if got := x.goesAgain(1); got != (time == 3) {
				t.Errorf("the time %d lets something go again: %v", time, got)
			}
		}
	})
}

// TestSameOfNothing, step 7: with nothing on its way nothing is the same.
func TestSameOfNothing(t *testing.T) {
	each(t, func(t *testing.T, o origin) {
		x := open(t, o, usualMss, 1)
		x.write("ab")
		x.out()
		x.in(x.comes(1, 2, 0, ""))
		for range 5 {
			x.in(x.comes(1, 2, 0, ""))
		}
		x.sends()
		x.in(x.comes(1, 2, 1, ""))
		x.out()
		for range 2 {
			x.in(x.comes(1, 2, 1, ""))
		}
		x.sends()
		x.in(x.comes(1, 2, 1, ""))
		x.sends(x.goes(2, 1, 2048, "b"))

		x = filled(t, o)
		x.tick(64) // all of it goes back, so that none is on its way
		for range 5 {
			x.in(x.comes(1, 1, 150, ""))
		}
		x.sends(x.goes(1, 1, 2048, long(100)))
	})
}

// TestLostTakesTheFlight, step 7: Slow is the half of what was on its way, Size
// is that; and nothing is measured.
func TestLostTakesTheFlight(t *testing.T) {
	each(t, func(t *testing.T, o origin) {
		x := open(t, o, usualMss, 65535)
		x.write(long(2048))
		for i := range 6 {
			x.out()
			x.in(x.comes(1, 101+100*i, 65535, ""))
		}
		x.out()
		for range 3 {
			x.in(x.comes(1, 601, 65535, ""))
		}
		if slow, size := x.conn.window.Slow(), x.conn.window.Size(); slow != 400 || size != 400 {
			t.Errorf("Slow is %d, Size %d", slow, size)
		}
		x.sends(x.goes(601, 1, 2048, long(2048)[600:700]))
		if got := x.conn.measured.behind; got != 0 {
			t.Errorf("%d is measured", got)
		}
	})
}

// TestWindowIsTaken, step 8, sees by WND what was taken of a segment that lies
// and acknowledges so. The last one of which it was taken lies at 11, and has
// ACK 51; 150 went out. The one ahead of that lies at 4, for the place is that
// of the last one, be it lower or not.
func TestWindowIsTaken(t *testing.T) {
	for _, k := range []struct {
		name    string
		at, ack int
		body    string
		is      bool
	}{
		{"the same place, the same ACK", 11, 51, "", true},
		{"above, the same", 12, 51, "", true},
		{"far above, the same", 2000, 51, "", true},
		{"below, the same", 10, 51, "", false},
		{"far below, the same", 1, 51, "", false},
		{"the same, above", 11, 52, "", true},
		{"above, above", 12, 52, "", true},
		{"below, above", 10, 52, "", true},
		{"far below, all", 1, 151, "", true},
		{"the same, below", 11, 50, "", false},
		{"above, below", 12, 50, "", false},
		{"below, below", 10, 50, "", false},
		{"above, far below", 12, 0, "", false},
		{"above, too far above", 12, 152, "", false},
		{"the same place, with a Body", 11, 51, "abc", true},
		{"below, with a Body", 10, 51, "abc", false},
		{"a Body that reaches to the next one", -3, 51, "abcdef", false},
		{"below, above, with a Body", 1, 52, "abc", true},
	} {
		each(t, func(t *testing.T, o origin) {
			x := filled(t, o)
			x.in(x.comes(4, 31, 60, ""))
			x.in(x.comes(11, 51, 70, ""))
			x.in(x.comes(k.at, k.ack, 80, k.body))
			want := 70
			if k.is {
				want = 80
			}
			if got := x.conn.wnd; got != want {
				t.Errorf("%s: WND is %d, not %d", k.name, got, want)
			}
		})
	}
}

// TestWindowOfTheLastOne, step 8: what is below by its place, and above by its
// ACK, is the last one from then on.
func TestWindowOfTheLastOne(t *testing.T) {
	each(t, func(t *testing.T, o origin) {
		x := filled(t, o)
		x.in(x.comes(11, 51, 70, ""))
		x.in(x.comes(4, 61, 60, ""))
		x.in(x.comes(3, 61, 50, ""))
		if got := x.conn.wnd; got != 60 {
			t.Errorf("WND is %d", got)
		}
		x.in(x.comes(4, 61, 50, ""))
		if got := x.conn.wnd; got != 50 {
			t.Errorf("WND is %d", got)
		}
	})
}

// TestWindowBehindSyn, step 8: SYN has place 0, so that what comes behind it is
// newer, in whatever way it began.
func TestWindowBehindSyn(t *testing.T) {
	each(t, func(t *testing.T, o origin) {
		x := open(t, o, usualMss, 10)
		x.in(x.comes(1, 1, 20, ""))
		if got := x.conn.wnd; got != 20 {
			t.Errorf("WND is %d", got)
		}
		x = open(t, o, usualMss, 10)
		x.in(x.comes(0, 1, 20, "ab")) // at the place of SYN
		if got := x.conn.wnd; got != 20 {
			t.Errorf("WND is %d", got)
		}
		x = open(t, o, usualMss, 10)
		x.in(x.comes(-1, 1, 20, "abc"))
		x.in(x.comes(0, 0, 20, "abcd"))
		if got := x.conn.wnd; got != 10 {
			t.Errorf("WND is %d", got)
		}
		x.reads("ccd")
		x = take(t, o, usualMss, 10, 0)
		x.out()
		x.in(x.comes(1, 1, 20, ""))
		if got := x.conn.wnd; got != 20 {
			t.Errorf("WND is %d", got)
		}
	})
}

// TestFinIsAcknowledged, step 9, in each state in which something of this side
// may still be on its way, with an ACK of all, and of all but FIN.
func TestFinIsAcknowledged(t *testing.T) {
	for _, k := range []struct{ state, behind int }{
		{api.Established, api.Established}, {api.FinWait1, api.FinWait2}, {api.FinWait2, api.FinWait2},
		{api.CloseWait, api.CloseWait}, {api.Closing, api.TimeWait}, {api.LastAck, api.Closed}, {api.TimeWait, api.TimeWait},
	} {
		eachState(t, []place{places[k.state]}, func(x *trial, p place) {
			x.in(x.comes(p.next, p.una, usualWin, ""))
			x.is(p.state)
			x.in(x.comes(p.next, p.sent, usualWin, ""))
			x.is(k.behind)
			x.says(x.conn.Why(), api.OK)
			x.sends()
		})
	}
}

// TestLastAckIsAll, step 9: of what comes with it nothing is owed an ACK, nor
// does anything go out behind it.
func TestLastAckIsAll(t *testing.T) {
	each(t, func(t *testing.T, o origin) {
		x, p := brought(t, o, api.LastAck)
		x.in(x.comes(p.next, p.sent, usualWin, "abc"))
		x.ended(api.OK)
		x.sends()
		s, over, e := x.read(9)
		if s != "" || !over || e != api.OK {
			t.Errorf("it reads %q, %v, %d", s, over, e)
		}
	})
}

// TestFinThatWaits, step 9: it is not all yet, as long as FIN, or what lies
// ahead of it, has not gone out.
func TestFinThatWaits(t *testing.T) {
	each(t, func(t *testing.T, o origin) {
		x := open(t, o, usualMss, 5)
		x.write("hello")
		x.close()
		x.out()
		x.in(x.comes(1, 6, 0, ""))
		x.is(api.FinWait1)
		x.in(x.comes(1, 7, 0, "")) // FIN has not gone out
		x.is(api.FinWait1)
		x.sends(x.goes(6, 1, 2048, ""))
		x.in(x.comes(1, 6, 1, ""))
		x.sends(withFin(x.goes(6, 1, 2048, "")))
		x.in(x.comes(1, 7, 0, ""))
		x.is(api.FinWait2)

		x, p := brought(t, o, api.CloseWait)
		x.write("hello")
		x.close()
		x.out()
		x.in(x.comes(p.next, 6, 0, ""))
		x.is(api.LastAck)
		x.in(x.comes(p.next, 7, 0, ""))
		x.ended(api.OK)
	})
}

// TestBodyInEachState, step 10: it is taken until the other side has ended, and
// owed an ACK always.
func TestBodyInEachState(t *testing.T) {
	eachState(t, later, func(x *trial, p place) {
		ack := max(p.una, 1)
		x.in(x.comes(p.next, ack, usualWin, "abc"))
		state := p.state
		if state == api.SynRcvd {
			state = api.Established
		}
		x.is(state)
		switch p.state {
		case api.SynRcvd, api.Established, api.FinWait1, api.FinWait2:
			x.sends(x.goes(p.sent, p.next+3, 2045, ""))
			x.reads("abc")
		default:
			x.sends(x.goes(p.sent, p.next, 2048, ""))
			s, over, e := x.read(9)
			if s != "" || !over || e != api.OK {
				x.t.Errorf("it reads %q, %v, %d", s, over, e)
			}
		}
		x.sends()
	})
}

// TestEmptyIsOwedNothing, step 10.
func TestEmptyIsOwedNothing(t *testing.T) {
	eachState(t, places[api.Established:], func(x *trial, p place) {
		x.in(x.comes(p.next, p.una, usualWin, ""))
		x.in(x.comes(p.next+2047, p.una, usualWin, ""))
		x.is(p.state)
		x.sends()
	})
}

// TestFinInEachState, step 10.
func TestFinInEachState(t *testing.T) {
	for _, k := range []struct{ state, behind, next int }{
		{api.SynRcvd, api.CloseWait, 2}, {api.Established, api.CloseWait, 2}, {api.FinWait1, api.Closing, 2},
		{api.FinWait2, api.TimeWait, 2}, {api.CloseWait, api.CloseWait, 2}, {api.Closing, api.Closing, 2},
		{api.LastAck, api.LastAck, 2}, {api.TimeWait, api.TimeWait, 2},
	} {
		eachState(t, []place{places[k.state]}, func(x *trial, p place) {
			x.in(withFin(x.comes(p.next, max(p.una, 1), usualWin, "")))
			x.is(k.behind)
			x.sends(x.goes(p.sent, k.next, 2048, ""))
			x.sends()
			_, over, e := x.read(9)
			if !over || e != api.OK {
				x.t.Errorf("it reads %v, %d", over, e)
			}
		})
	}
}

// TestFinBehindAGap, step 10: it is told once all ahead of it has come, in each
// order.
func TestFinBehindAGap(t *testing.T) {
	for _, k := range []struct{ state, behind int }{
		{api.Established, api.CloseWait}, {api.FinWait1, api.Closing}, {api.FinWait2, api.TimeWait},
	} {
		eachState(t, []place{places[k.state]}, func(x *trial, p place) {
			x.in(withFin(x.comes(7, p.una, usualWin, "")))
			x.is(p.state)
			x.sends(x.goes(p.sent, 1, 2048, ""))
			x.in(x.comes(4, p.una, usualWin, "def"))
			x.is(p.state)
			x.sends(x.goes(p.sent, 1, 2048, ""))
			_, _, e := x.read(9)
			x.says(e, api.ErrAgain)
			x.in(x.comes(1, p.una, usualWin, "abc"))
			x.is(k.behind)
			x.sends(x.goes(p.sent, 8, 2042, ""))
			x.reads("abcdef")
			_, over, _ := x.read(9)
			if !over {
				x.t.Error("the end is not told")
			}
		})
	}
}

// TestFinsInEachOrder: FIN of both sides, and the ACKs of both.
func TestFinsInEachOrder(t *testing.T) {
	for _, k := range []struct {
		name   string
		acts   string // c: Close; f: FIN; a: ACK of FIN; b: both in one
		states []int
	}{
		{"this side first", "caf", []int{api.FinWait1, api.FinWait2, api.TimeWait}},
		{"this side first, answered at once", "cb", []int{api.FinWait1, api.TimeWait}},
		{"both at the same time", "cfa", []int{api.FinWait1, api.Closing, api.TimeWait}},
		{"the other side first", "fca", []int{api.CloseWait, api.LastAck, api.Closed}},
		{"the other side first, once more", "fcfa", []int{api.CloseWait, api.LastAck, api.LastAck, api.Closed}},
		{"the other side first, both once more", "fcb", []int{api.CloseWait, api.LastAck, api.Closed}},
	} {
		each(t, func(t *testing.T, o origin) {
			x := open(t, o, usualMss, usualWin)
			next := 1
			for i, act := range k.acts {
				switch act {
				case 'c':
					x.says(x.close(), api.OK)
				case 'f':
					x.in(withFin(x.comes(1, 1, usualWin, "")))
					next = 2
				case 'a':
					x.in(x.comes(next, 2, usualWin, ""))
				case 'b':
					x.in(withFin(x.comes(1, 2, usualWin, "")))
					if k.states[i] == api.Closed { // the FIN came before, so that this one is not let in
						x.in(x.comes(next, 2, usualWin, ""))
					}
				}
				if x.out(); x.conn.State() != k.states[i] {
					t.Fatalf("%s: at %d it is %d", k.name, i, x.conn.State())
				}
			}
			x.says(x.conn.Why(), api.OK)
		})
	}
}

// TestRoundTheNumbers: both sides' numbers go on by 4000 from their origins, and
// each byte comes as it was.
func TestRoundTheNumbers(t *testing.T) {
	each(t, func(t *testing.T, o origin) {
		x := open(t, o, usualMss, 65535)
		for i := range 20 {
			text := strings.Repeat(string(rune('a'+i)), 200)
			at := 1 + i*len(text)
			x.write(text)
			var sent string
			for _, g := range x.out() {
				if g.Seq != o.iss+uint32(at+len(sent)) {
					t.Fatalf("it goes %+v", g)
				}
				sent += g.Body
			}
			x.in(x.comes(at, at+len(text), 65535, text))
			x.reads(text)
			if sent != text {
				t.Fatalf("of %q goes %q", text, sent)
			}
		}
	})
}
