package conn

import (
	"fmt"
	"testing"

	"packetboat/api"
)

// P29

// TestOutInEachState: with text to go, and a segment owed an ACK, as far as that
// may be.
func TestOutInEachState(t *testing.T) {
	for _, k := range []struct {
		state int
		want  func(x *trial) []api.Seg
	}{
		{api.Closed, func(x *trial) []api.Seg { return nil }},
		{api.SynSent, func(x *trial) []api.Seg { return nil }},
		{api.SynRcvd, func(x *trial) []api.Seg { return []api.Seg{x.goes(1, 1, 2048, "")} }},
		{api.Established, func(x *trial) []api.Seg { return []api.Seg{x.goes(1, 1, 2048, "text")} }},
		{api.FinWait1, func(x *trial) []api.Seg { return []api.Seg{x.goes(2, 1, 2048, "")} }},
		{api.FinWait2, func(x *trial) []api.Seg { return []api.Seg{x.goes(2, 1, 2048, "")} }},
		{api.CloseWait, func(x *trial) []api.Seg { return []api.Seg{x.goes(1, 2, 2048, "text")} }},
		{api.Closing, func(x *trial) []api.Seg { return []api.Seg{x.goes(2, 2, 2048, "")} }},
		{api.LastAck, func(x *trial) []api.Seg { return []api.Seg{x.goes(2, 2, 2048, "")} }},
		{api.TimeWait, func(x *trial) []api.Seg { return []api.Seg{x.goes(2, 2, 2048, "")} }},
	} {
		eachState(t, []place{places[k.state]}, func(x *trial, p place) {
			x.write("text")
			x.in(x.comes(-5, p.una, usualWin, "old"))
			if p.state == api.SynSent {
				x.sends(x.breaks(0))
			}
			x.sends(k.want(x)...)
			x.sends()
		})
	}
}

// TestFirstOutOfEachBeginning: SYN goes out once, and again only by the clock.
func TestFirstOutOfEachBeginning(t *testing.T) {
	each(t, func(t *testing.T, o origin) {
		x := dial(t, o, usualMss)
		x.sends(api.Seg{From: here, To: there, Seq: o.iss, Syn: true, Win: 2048, Mss: usualMss})
		x.sends()
		x = take(t, o, usualMss, usualWin, 50)
		want := x.goes(0, 1, 2048, "")
		want.Syn, want.Mss = true, usualMss
		x.sends(want)
		x.sends()
	})
}

func TestRstsComeFirst(t *testing.T) {
	each(t, func(t *testing.T, o origin) {
		x := dial(t, o, usualMss)
		x.in(x.comes(0, 1, usualWin, "")) // ahead of anything having gone out
		x.in(x.comes(0, 9, usualWin, ""))
		x.in(x.comes(0, -3, usualWin, ""))
		x.sends(x.breaks(1), x.breaks(9), x.breaks(-3),
			api.Seg{From: here, To: there, Seq: o.iss, Syn: true, Win: 2048, Mss: usualMss})
		x.sends()
	})
}

// TestRstOwesStill: a RST tells nothing of what has come, so that an ACK is owed
// still; it goes at once.
func TestRstOwesStill(t *testing.T) {
	each(t, func(t *testing.T, o origin) {
		x, _ := brought(t, o, api.SynRcvd)
		x.in(x.syn(usualWin, 0))
		x.in(x.comes(1, 5, usualWin, ""))
		x.in(x.syn(usualWin, 0))
		x.sends(x.breaks(5), x.goes(1, 1, 2048, ""))
		x.sends()
	})
}

// filled is a trial of which 150 bytes went out, in two pieces, and none is
// acknowledged; 50 more wait for room in the window of 150.
func filled(t *testing.T, o origin) *trial {
	t.Helper()
	x := open(t, o, usualMss, 150)
	x.write(long(200))
	x.sends(x.goes(1, 1, 2048, long(200)[:100]), x.goes(101, 1, 2048, long(200)[100:150]))
	return x
}

func TestAgainOnce(t *testing.T) {
	each(t, func(t *testing.T, o origin) {
		x := filled(t, o)
		for range 3 {
			x.sends()
			x.in(x.comes(1, 1, 150, ""))
		}
		x.sends(x.goes(1, 1, 2048, long(200)[:100]))
		x.sends()
	})
}

// TestAgainComesFirst: what is sent again goes ahead of what is new.
func TestAgainComesFirst(t *testing.T) {
	each(t, func(t *testing.T, o origin) {
		x := filled(t, o)
		for range 3 {
			x.in(x.comes(1, 1, 150, ""))
		}
		x.in(x.comes(1, 1, 180, "abc"))
		x.sends(x.goes(1, 4, 2045, long(200)[:100]), x.goes(151, 4, 2045, long(200)[150:180]))
		x.sends()
	})
}

// TestAgainOfWhatCame: AGAIN is asked for once, even if all that had gone out
// is acknowledged by then.
func TestAgainOfWhatCame(t *testing.T) {
	each(t, func(t *testing.T, o origin) {
		x := filled(t, o)
		for range 3 {
			x.in(x.comes(1, 1, 150, ""))
		}
		x.in(x.comes(1, 151, 150, ""))
		x.sends(x.goes(151, 1, 2048, long(200)[150:]))
		x.sends()
	})
}

// TestAgainWithFin: the first that is not acknowledged is as long as it may be,
// also where it went out by smaller pieces.
func TestAgainWithFin(t *testing.T) {
	each(t, func(t *testing.T, o origin) {
		x := open(t, o, usualMss, usualWin)
		x.write("ab")
		x.out()
		x.write("cd")
		x.out()
		x.close()
		x.sends(withFin(x.goes(5, 1, 2048, "")))
		for range 3 {
			x.in(x.comes(1, 1, usualWin, ""))
		}
		x.sends(withFin(x.goes(1, 1, 2048, "abcd")))
	})
}

func TestSynAloneUntilItIsAcknowledged(t *testing.T) {
	each(t, func(t *testing.T, o origin) {
		x := take(t, o, usualMss, usualWin, 0)
		x.write("hello")
		x.close()
		want := x.goes(0, 1, 2048, "")
		want.Syn, want.Mss = true, usualMss
		x.sends(want)
		x.in(x.bare(1, usualWin, ""))
		x.sends()
		x.in(x.comes(1, 1, usualWin, ""))
		x.sends(withFin(x.goes(1, 1, 2048, "hello")))
	})
}

func TestLowerOneOfBothWindows(t *testing.T) {
	// Of an mss of 100 the Size is 201 behind SYN.
	for _, k := range []struct {
		wnd  int
		want []int
	}{
		{0, nil}, {1, []int{1}}, {99, []int{99}}, {100, []int{100}}, {101, []int{100, 1}}, {200, []int{100, 100}},
		{201, []int{100, 100, 1}}, {202, []int{100, 100, 1}}, {65535, []int{100, 100, 1}},
	} {
		each(t, func(t *testing.T, o origin) {
			x := open(t, o, usualMss, k.wnd)
			if got := pieces(x); fmt.Sprint(got) != fmt.Sprint(k.want) {
				t.Errorf("of a window of %d: it goes by %d, not %d", k.wnd, got, k.want)
			}
			x.sends()
		})
	}
}

// TestWindowIsFromUna: the window is told from what is not acknowledged on; if
// it gets smaller, what went out is out.
func TestWindowIsFromUna(t *testing.T) {
	each(t, func(t *testing.T, o origin) {
		x := filled(t, o)
		x.in(x.comes(1, 101, 60, ""))
		x.sends(x.goes(151, 1, 2048, long(200)[150:160]))
		x.in(x.comes(1, 121, 10, ""))
		x.sends()
		x.in(x.comes(1, 131, 30, ""))
		x.sends()
		x.in(x.comes(1, 131, 31, ""))
		x.sends(x.goes(161, 1, 2048, long(200)[160:161]))
	})
}

// TestFinWithinTheWindow: FIN has a place, and goes only where that is let out.
func TestFinWithinTheWindow(t *testing.T) {
	each(t, func(t *testing.T, o origin) {
		x := open(t, o, usualMss, 5)
		x.write("hello")
		x.close()
		x.sends(x.goes(1, 1, 2048, "hello"))
		x.in(x.comes(1, 1, 6, ""))
		x.sends(withFin(x.goes(6, 1, 2048, "")))

		x = open(t, o, usualMss, 6)
		x.write("hello")
		x.close()
		x.sends(withFin(x.goes(1, 1, 2048, "hello")))
	})
}

// stuck is a trial whose text waits for a window of 0 to open.
func stuck(t *testing.T, o origin, text string) *trial {
	t.Helper()
	x := open(t, o, usualMss, 0)
	x.write(text)
	x.sends()
	return x
}

func TestProbeOnce(t *testing.T) {
	each(t, func(t *testing.T, o origin) {
		x := stuck(t, o, "hello")
		x.tick(2)
		x.sends(x.goes(1, 1, 2048, "h"))
		x.sends()
		x.in(x.comes(1, 2, 0, ""))
		x.sends()
		x.tick(1)
		x.sends()
		x.tick(1)
		x.sends(x.goes(2, 1, 2048, "e"))
	})
}

// TestProbeOfFin: FIN goes as a probe, too, but only alone.
func TestProbeOfFin(t *testing.T) {
	each(t, func(t *testing.T, o origin) {
		x := stuck(t, o, "h")
		x.close()
		x.tick(2)
		x.sends(x.goes(1, 1, 2048, "h"))
		x.in(x.comes(1, 2, 0, ""))
		x.tick(2)
		x.sends(withFin(x.goes(2, 1, 2048, "")))
	})
}

// TestProbeOfAWindow: of a window that has opened meanwhile a probe takes
// nothing away, and adds nothing to it; it is asked for no more behind that.
func TestProbeOfAWindow(t *testing.T) {
	each(t, func(t *testing.T, o origin) {
		x := stuck(t, o, "hello")
		x.tick(2)
		x.in(x.comes(1, 1, 3, ""))
		x.sends(x.goes(1, 1, 2048, "hel"))
		x.in(x.comes(1, 4, 0, ""))
		x.sends()

		x = stuck(t, o, "hello")
		x.tick(2)
		x.in(x.comes(1, 1, 1, ""))
		x.sends(x.goes(1, 1, 2048, "h"))
		x.in(x.comes(1, 2, 0, ""))
		x.sends()
	})
}

// TestProbeGoesOnceToo: a probe that was asked for goes no more, once Out was
// called, even if it is not answered.
func TestProbeGoesOnceToo(t *testing.T) {
	each(t, func(t *testing.T, o origin) {
		x := stuck(t, o, "hello")
		x.tick(2)
		x.out()
		x.tick(2) // it is lost: all goes back, and there is no new one
		x.sends()
		x.tick(3)
		x.sends()
		x.tick(1)
		x.sends(x.goes(1, 1, 2048, "h"))
	})
}

func TestOwedAlone(t *testing.T) {
	each(t, func(t *testing.T, o origin) {
		x := open(t, o, usualMss, usualWin)
		x.in(x.comes(1, 1, usualWin, "abc"))
		x.in(x.comes(4, 1, usualWin, "def"))
		x.sends(x.goes(1, 7, 2042, ""))
		x.sends()
	})
}

// TestOwedWithAPiece: any piece tells what has come, and so no ACK is owed
// behind it: one that is next, one that goes again, and a probe.
func TestOwedWithAPiece(t *testing.T) {
	each(t, func(t *testing.T, o origin) {
		x := open(t, o, usualMss, usualWin)
		x.in(x.comes(1, 1, usualWin, "abc"))
		x.write("hi")
		x.sends(x.goes(1, 4, 2045, "hi"))
		x.sends()

		for range 3 {
			x.in(x.comes(4, 1, usualWin, ""))
		}
		x.in(x.comes(4, 1, usualWin, "def"))
		x.sends(x.goes(1, 7, 2042, "hi"))
		x.sends()

		x = stuck(t, o, "hello")
		x.in(x.comes(1, 1, 0, "abc"))
		x.tick(2)
		x.sends(x.goes(1, 4, 2045, "h"))
		x.sends()
	})
}

// TestOwedBehindWhatWentOut: an ACK has the number behind all that ever went
// out, also where some of that goes once more.
func TestOwedBehindWhatWentOut(t *testing.T) {
	each(t, func(t *testing.T, o origin) {
		x := filled(t, o)
		x.in(x.comes(1, 1, 0, "abc"))
		x.tick(64)
		x.sends(x.goes(151, 4, 2045, ""))
	})
}

// The next ones see what was measured by how long the clock waits behind that.

// waits checks that the clock goes off behind just so many ticks from now on,
// by which something goes out.
func (x *trial) waits(n int) {
	x.t.Helper()
	x.tick(n - 1)
	x.sends()
	x.tick(1)
	if len(x.out()) == 0 {
		x.t.Fatalf("the clock doesn't go off behind %d, behind\n%s", n, x.told())
	}
}

func TestMeasuresSyn(t *testing.T) {
	each(t, func(t *testing.T, o origin) {
		x := dial(t, o, usualMss)
		x.tick(50)
		x.out()
		x.tick(2)
		g := x.syn(usualWin, 0)
		g.HasAck, g.Ack = true, o.iss+1
		x.in(g)
		x.out()
		x.write("hello")
		x.out()
		x.waits(6)

		x = take(t, o, usualMss, usualWin, 0)
		x.tick(50)
		x.out()
		x.tick(1)
		x.in(x.comes(1, 1, usualWin, ""))
		x.write("hello")
		x.out()
		x.waits(3)
	})
}

// slowly is a trial that has measured nothing but SYN, behind 2 ticks: it waits
// for 6 (the mean is 2, the spread 4). Nothing waits to go out.
func slowly(t *testing.T, o origin) *trial {
	t.Helper()
	x := dial(t, o, usualMss)
	x.out()
	x.tick(2)
	g := x.syn(usualWin, 0)
	g.HasAck, g.Ack = true, o.iss+1
	x.in(g)
	x.out()
	x.is(api.Established)
	return x
}

// TestMeasuresTheFirstPiece: of several that go out together the first one is
// measured: what is acknowledged up to just behind it answers it.
func TestMeasuresTheFirstPiece(t *testing.T) {
	each(t, func(t *testing.T, o origin) {
		for _, k := range []struct{ ack, waits int }{
			// Behind 5 ticks the mean is 2 and 3 eighths, the spread 6.
			{100, 6}, {101, 8}, {102, 8}, {151, 8},
		} {
			x := slowly(t, o)
			x.write(long(150))
			x.out()
			x.tick(5)
			x.in(x.comes(1, k.ack, usualWin, ""))
			x.write("more")
			x.out()
			x.waits(k.waits)
		}
	})
}

// TestMeasuresOneAtATime: a second piece is of no matter, as long as the first
// one isn't answered.
func TestMeasuresOneAtATime(t *testing.T) {
	each(t, func(t *testing.T, o origin) {
		x := slowly(t, o)
		x.write("a")
		x.out()
		x.tick(4)
		x.write("b")
		x.out()
		x.tick(1)
		x.in(x.comes(1, 3, usualWin, "")) // behind 5 and 1: 5 is measured
		x.write("c")
		x.out()
		x.waits(8)
	})
}

// TestMeasuresAnew: behind an answer the next piece is measured.
func TestMeasuresAnew(t *testing.T) {
	each(t, func(t *testing.T, o origin) {
		x := slowly(t, o)
		x.write("a")
		x.out()
		x.in(x.comes(1, 2, usualWin, "")) // 0: the mean is 1 and 6 eighths, the spread 5
		x.write("b")
		x.out()
		x.tick(5)
		x.in(x.comes(1, 3, usualWin, "")) // 4 more than 1: 2 and 2 eighths, 5 - 1 + 4
		x.write("c")
		x.out()
		x.waits(10)
	})
}

// TestMeasuresNotTwice: what goes out once more is not measured, nor what had
// gone out ahead of that; nor a piece that is new only in its end.
func TestMeasuresNotTwice(t *testing.T) {
	each(t, func(t *testing.T, o origin) {
		x := slowly(t, o)
		x.write("a")
		x.out()
		x.waits(6)
		x.tick(1)
		x.in(x.comes(1, 2, usualWin, ""))
		x.write("b")
		x.out()
		x.waits(12) // as it was DOUBLED: no Sample has come

		x = slowly(t, o)
		x.write("a")
		x.out()
		x.tick(6)
		x.write("b")
		x.sends(x.goes(1, 1, 2048, "ab"))
		x.tick(1)
		x.in(x.comes(1, 3, usualWin, ""))
		x.write("c")
		x.out()
		x.waits(12)
	})
}

// TestMeasuresBehindWhatGoesOnceMore: of what goes out behind a piece that goes
// once more, what is new is measured.
func TestMeasuresBehindWhatGoesOnceMore(t *testing.T) {
	each(t, func(t *testing.T, o origin) {
		x := slowly(t, o)
		x.write(long(100))
		x.out()
		x.tick(6)
		x.write("b") // the window is one of 100 bytes now
		x.sends(x.goes(1, 1, 2048, long(100)))
		x.tick(3)
		x.in(x.comes(1, 101, usualWin, ""))
		x.sends(x.goes(101, 1, 2048, "b"))
		x.tick(5)
		x.in(x.comes(1, 102, usualWin, ""))
		x.write("c")
		x.out()
		x.waits(8)
	})
}

// TestMeasuresNoAck: an ACK alone is no piece; what goes again by AGAIN is none
// that is measured.
func TestMeasuresNoAck(t *testing.T) {
	each(t, func(t *testing.T, o origin) {
		x := slowly(t, o)
		x.in(x.comes(1, 1, usualWin, "abc"))
		x.sends(x.goes(1, 4, 2045, ""))
		x.tick(30)
		x.write("a")
		x.out()
		x.tick(5)
		x.in(x.comes(4, 2, usualWin, ""))
		x.write("b")
		x.out()
		x.waits(8)

		x = slowly(t, o)
		x.write("a")
		x.out()
		x.tick(1)
		for range 3 {
			x.in(x.comes(1, 1, usualWin, ""))
		}
		x.sends(x.goes(1, 1, 2048, "a"))
		x.tick(4)
		x.in(x.comes(1, 2, usualWin, ""))
		x.write("b")
		x.out()
		x.waits(6)
	})
}

// TestMeasuresFin: FIN is a place as all others.
func TestMeasuresFin(t *testing.T) {
	each(t, func(t *testing.T, o origin) {
		x := slowly(t, o)
		x.close()
		x.out()
		x.tick(5)
		x.in(x.comes(1, 2, usualWin, ""))
		x.is(api.FinWait2)
		if got := x.conn.timer.Value(); got != 8 {
			t.Errorf("behind FIN it waits for %d", got)
		}
	})
}
