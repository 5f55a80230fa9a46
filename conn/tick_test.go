package conn

import (
	"math"
	"slices"
	"testing"

	"packetboat/api"
)

// P30

func TestTickBounds(t *testing.T) {
	for _, k := range []struct {
		n    int
		want api.Errno
	}{
		{math.MinInt, api.ErrArg}, {-1, api.ErrArg}, {0, api.OK}, {1, api.OK}, {1 << 40, api.OK},
		{1<<40 + 1, api.ErrArg}, {math.MaxInt, api.ErrArg},
	} {
		eachState(t, places, func(x *trial, p place) {
			x.says(x.tick(k.n), k.want)
		})
	}
	eachState(t, places, func(x *trial, p place) {
		x.says(x.tick(5), api.OK)
		x.says(x.tick(1<<40-4), api.ErrArg)
		x.says(x.tick(1<<40-5), api.OK)
		x.says(x.tick(1), api.ErrArg)
		x.says(x.tick(math.MaxInt), api.ErrArg)
		x.says(x.tick(0), api.OK)
	})
}

// TestTickThatIsNotTaken: one beyond the bounds lets no time go by.
func TestTickThatIsNotTaken(t *testing.T) {
	each(t, func(t *testing.T, o origin) {
		x := dial(t, o, usualMss)
		x.out()
		for _, n := range []int{-1, math.MinInt, 1<<40 + 1, math.MaxInt} {
			x.tick(n)
		}
		x.tick(2)
		x.tick(-2)
		x.sends()
		x.tick(1)
		if len(x.out()) != 1 {
			t.Error("nothing goes again")
		}
	})
}

// TestClockBegins: it runs from when something goes out on.
func TestClockBegins(t *testing.T) {
	each(t, func(t *testing.T, o origin) {
		x := dial(t, o, usualMss)
		x.tick(100)
		x.tick(0)
		syn := x.out()
		x.sends()
		x.waits(3)
		x.waits(6)
		x.tick(11)
		x.tick(0)
		x.sends()
		x.tick(1)
		x.sends(syn...)
	})
}

// TestClockWaitsForOut: once all is to go again it runs no more, until that has.
func TestClockWaitsForOut(t *testing.T) {
	each(t, func(t *testing.T, o origin) {
		x := dial(t, o, usualMss)
		x.out()
		x.tick(3)
		for range 30 {
			x.tick(64) // the clock would go off nine times
		}
		x.is(api.SynSent)
		x.out()
		x.waits(6)
	})
}

// TestClockGoesOn: what goes out behind what is on its way doesn't let it begin
// anew, nor does what comes and acknowledges nothing.
func TestClockGoesOn(t *testing.T) {
	each(t, func(t *testing.T, o origin) {
		x := slowly(t, o)
		x.write("a")
		x.out()
		x.tick(3)
		x.write("b")
		x.out()
		x.in(x.comes(1, 1, 900, "abc"))
		x.out()
		x.read(3)
		x.waits(3)
	})
}

// TestClockEnds: once all is acknowledged it never goes off.
func TestClockEnds(t *testing.T) {
	each(t, func(t *testing.T, o origin) {
		x := slowly(t, o)
		x.write("a")
		x.out()
		x.in(x.comes(1, 2, usualWin, ""))
		for range 20 {
			x.tick(100)
			x.sends()
		}
		x.is(api.Established)
	})
}

// TestClockBeginsAnew: by what is acknowledged, even if it is only some, and by
// what goes out once nothing was on its way.
func TestClockBeginsAnew(t *testing.T) {
	each(t, func(t *testing.T, o origin) {
		x := slowly(t, o)
		x.write("abc")
		x.out()
		x.tick(5)
		x.in(x.comes(1, 2, usualWin, "")) // nothing is measured: the first piece isn't all answered
		x.waits(6)
		x.in(x.comes(1, 4, usualWin, ""))

		x = slowly(t, o)
		x.write("a")
		x.out()
		x.tick(2)
		x.in(x.comes(1, 2, usualWin, "")) // the mean is 2, the spread 3
		x.tick(3)
		x.write("b")
		x.out()
		x.waits(5)
	})
}

// TestOnceInATick: however long it is, and however often it could have been.
func TestOnceInATick(t *testing.T) {
	each(t, func(t *testing.T, o origin) {
		x := dial(t, o, usualMss)
		x.out()
		for range 8 {
			x.tick(1 << 30)
			x.is(api.SynSent)
			if len(x.out()) != 1 {
				t.Fatal("it doesn't go out once")
			}
			x.sends()
		}
		x.tick(1 << 30)
		x.ended(api.ErrTimeout)
	})
}

// TestEighthAndNinthTime: eight times something goes again, and behind that it
// is waited for once more.
func TestEighthAndNinthTime(t *testing.T) {
	each(t, func(t *testing.T, o origin) {
		x := dial(t, o, usualMss)
		x.out()
		for _, n := range []int{3, 6, 12, 24, 48, 64, 64, 64} {
			x.waits(n)
			x.is(api.SynSent)
		}
		x.tick(63)
		x.is(api.SynSent)
		x.tick(1)
		x.ended(api.ErrTimeout)
		x.sends()
	})
}

// TestTimeoutInEachState: in which something of this side is not acknowledged.
func TestTimeoutInEachState(t *testing.T) {
	for _, state := range []int{
		api.SynSent, api.SynRcvd, api.Established, api.CloseWait, api.FinWait1, api.Closing, api.LastAck,
	} {
		eachState(t, []place{places[state]}, func(x *trial, p place) {
			x.write("hello")
			x.out()
			for range 8 {
				x.tick(64)
				x.out()
			}
			x.is(p.state)
			x.tick(64)
			x.ended(api.ErrTimeout)
			x.sends()
			_, e := x.write("x")
			x.says(e, api.ErrTimeout)
		})
	}
}

// TestCountsAnew: P33: what is acknowledged lets it go off eight times more.
func TestCountsAnew(t *testing.T) {
	each(t, func(t *testing.T, o origin) {
		x := slowly(t, o)
		x.write(long(90))
		x.out()
		for _, ack := range []int{2, 3, 90} {
			for range 8 {
				x.tick(64)
				x.out()
			}
			x.is(api.Established)
			x.in(x.comes(1, ack, usualWin, ""))
			x.out()
		}
		for range 8 {
			x.tick(64)
			x.out()
			x.in(x.comes(1, 90, usualWin, "")) // nothing new
			x.in(x.comes(1, 90, usualWin, "abc"))
			x.out()
		}
		x.is(api.Established)
		x.tick(64)
		x.ended(api.ErrTimeout)
	})
}

// TestAllGoesBack: what goes out again begins at what is not acknowledged, a
// Body at a time, and then as much as twice that.
func TestAllGoesBack(t *testing.T) {
	each(t, func(t *testing.T, o origin) {
		x := open(t, o, usualMss, usualWin)
		if got := pieces(x); !slices.Equal(got, []int{100, 100, 1}) {
			t.Fatal(got)
		}
		x.tick(2)
		x.sends(x.goes(1, 1, 2048, long(100)))
		x.in(x.comes(1, 101, usualWin, "")) // Slow is 200, so that Size is that, too
		x.sends(x.goes(101, 1, 2048, long(200)[100:]), x.goes(201, 1, 2048, long(300)[200:]))
		x.in(x.comes(1, 201, usualWin, "")) // and 50 more
		x.sends(x.goes(301, 1, 2048, long(400)[300:]), x.goes(401, 1, 2048, long(450)[400:]))
	})
}

// TestSilentTakesTheFlight: of 400 that were on their way Slow is 200, of more
// the half.
func TestSilentTakesTheFlight(t *testing.T) {
	each(t, func(t *testing.T, o origin) {
		x := open(t, o, usualMss, usualWin)
		x.write(long(2048))
		for i := range 6 { // the window grows by what is acknowledged
			x.out()
			x.in(x.comes(1, 101+100*i, 65535, ""))
		}
		x.out()
		flight := x.conn.flight()
		if flight != 801 {
			t.Fatal(flight)
		}
		x.tick(2)
		if slow, size := x.conn.window.Slow(), x.conn.window.Size(); slow != 400 || size != 100 {
			t.Errorf("Slow is %d, Size %d", slow, size)
		}
	})
}

// TestSynGoesBack: a SYN that went out, and the same with an Ack.
func TestSynGoesBack(t *testing.T) {
	each(t, func(t *testing.T, o origin) {
		for _, state := range []int{api.SynSent, api.SynRcvd} {
			x := bring(t, o, state)
			syn := x.out()
			x.tick(3)
			x.sends(syn...)
			x.tick(5)
			x.sends()
			x.tick(1)
			x.sends(syn...)
		}
	})
}

// TestProbeClock: the clock runs while what waits can't go out; it begins as
// the window is closed, or as there is something that waits.
func TestProbeClock(t *testing.T) {
	each(t, func(t *testing.T, o origin) {
		x := open(t, o, usualMss, 0)
		x.tick(100)
		x.sends()
		x.write("hello")
		x.tick(1)
		x.write("more")
		x.sends()
		x.tick(1)
		x.sends(x.goes(1, 1, 2048, "h"))

		x = open(t, o, usualMss, 0)
		x.tick(100)
		x.close()
		x.waits(2)

		x = open(t, o, usualMss, 1)
		x.write("hello")
		x.out()
		x.tick(1)
		x.in(x.comes(1, 2, 0, "")) // 1 tick: the mean is 0 and 8 eighths, the spread 0
		x.sends()
		x.waits(2)
	})
}

// TestNoProbe: of a window of 0 with nothing that waits, or of one that isn't 0,
// or as long as SYN is not acknowledged.
func TestNoProbe(t *testing.T) {
	each(t, func(t *testing.T, o origin) {
		x := open(t, o, usualMss, 0)
		for range 20 {
			x.tick(64)
			x.sends()
		}
		x.is(api.Established)

		x = open(t, o, usualMss, 0)
		x.write("hello")
		x.tick(1)
		x.in(x.comes(1, 1, 5, ""))
		x.tick(64)
		x.sends(x.goes(1, 1, 2048, "hello"))

		x = take(t, o, usualMss, 0, 0)
		x.write("hello")
		x.tick(1000)
		syn := x.out()
		if len(syn) != 1 || !syn[0].Syn {
			t.Fatalf("it goes %+v", syn)
		}
		x.tick(3)
		x.sends(syn...)
	})
}

// TestProbesEnd: probes that nobody answers end as all others.
func TestProbesEnd(t *testing.T) {
	each(t, func(t *testing.T, o origin) {
		x := stuck(t, o, "hello")
		for range 8 {
			x.tick(64)
			x.out()
		}
		x.is(api.Established)
		x.tick(64)
		x.ended(api.ErrTimeout)
	})
}

// TestProbeTakesNoWindow: a probe says nothing of what was lost.
func TestProbeTakesNoWindow(t *testing.T) {
	each(t, func(t *testing.T, o origin) {
		x := stuck(t, o, long(300))
		x.tick(2)
		x.in(x.comes(1, 1, 65535, ""))
		x.sends(x.goes(1, 1, 2048, long(100)), x.goes(101, 1, 2048, long(200)[100:]), x.goes(201, 1, 2048, long(300)[200:201]))
	})
}

func TestTimeWaitEnds(t *testing.T) {
	each(t, func(t *testing.T, o origin) {
		x, _ := brought(t, o, api.TimeWait)
		x.tick(19)
		x.is(api.TimeWait)
		x.tick(0)
		x.is(api.TimeWait)
		x.tick(1)
		x.ended(api.OK)
		x.sends()

		x, _ = brought(t, o, api.TimeWait)
		x.tick(1 << 39)
		x.ended(api.OK)

		x, _ = brought(t, o, api.FinWait2)
		x.tick(1<<40 - 19) // it would end behind the last time that there is
		x.in(withFin(x.comes(1, 2, usualWin, "")))
		x.tick(19)
		x.is(api.TimeWait)
		x.says(x.tick(1), api.ErrArg)
		x.is(api.TimeWait)
	})
}

// TestTimeWaitBeginsByEachWay: it is told from when the state is reached.
func TestTimeWaitBeginsByEachWay(t *testing.T) {
	each(t, func(t *testing.T, o origin) {
		x, p := brought(t, o, api.Closing)
		x.tick(1)
		x.in(x.comes(p.next, p.sent, usualWin, ""))
		x.is(api.TimeWait)
		x.tick(19)
		x.is(api.TimeWait)
		x.tick(1)
		x.ended(api.OK)

		x, p = brought(t, o, api.FinWait1)
		x.tick(1)
		x.in(withFin(x.comes(p.next, p.sent, usualWin, "abc")))
		x.is(api.TimeWait)
		x.tick(19)
		x.is(api.TimeWait)
		x.tick(1)
		x.ended(api.OK)
	})
}

// TestNothingGoesOffBehindTheEnd: neither of TimeWait, nor of Closed.
func TestNothingGoesOffBehindTheEnd(t *testing.T) {
	each(t, func(t *testing.T, o origin) {
		x := open(t, o, usualMss, usualWin)
		x.write("hello")
		x.out()
		x.abort()
		for range 20 {
			x.says(x.tick(64), api.OK)
		}
		x.ended(api.ErrPipe)
		x.sends(x.breaks(6))

		x, _ = brought(t, o, api.SynSent)
		x.close()
		for range 20 {
			x.says(x.tick(64), api.OK)
			x.sends()
		}
		x.ended(api.OK)

		x, _ = brought(t, o, api.SynSent)
		x.abort()
		for range 20 {
			x.says(x.tick(64), api.OK)
			x.sends()
		}
		x.ended(api.ErrPipe)

		x, _ = brought(t, o, api.Closed)
		x.tick(1 << 40)
		x.ended(api.ErrPipe)
	})
}

// P33

// TestMeasuredAcknowledged sees by the Value what comes of what is measured,
// which is the text of 9 bytes; it is answered behind 5 ticks.
func TestMeasuredAcknowledged(t *testing.T) {
	for _, k := range []struct {
		name      string
		ack, want int
	}{
		{"not at all", 1, 6}, {"in part", 2, 6}, {"but for one", 9, 6}, {"just", 10, 8}, {"past it", 11, 8}, {"all", 13, 8},
	} {
		each(t, func(t *testing.T, o origin) {
			x := slowly(t, o)
			x.write(long(9))
			x.out()
			x.write("abc")
			x.out()
			x.tick(5)
			x.in(x.comes(1, k.ack, usualWin, ""))
			if got := x.conn.timer.Value(); got != k.want {
				t.Errorf("%s: the Value is %d, not %d", k.name, got, k.want)
			}
		})
	}
}

// TestNothingMeasured: what is acknowledged when nothing is measured says
// nothing of how long it took.
func TestNothingMeasured(t *testing.T) {
	each(t, func(t *testing.T, o origin) {
		x := slowly(t, o)
		x.write("abc")
		x.out()
		x.waits(6)
		x.tick(2)
		for _, ack := range []int{2, 4} {
			x.in(x.comes(1, ack, usualWin, ""))
			if got := x.conn.timer.Value(); got != 12 {
				t.Errorf("the Value is %d", got)
			}
		}
	})
}

// TestSameCountsAnew: P33: three times the same, each time that something was
// acknowledged.
func TestSameCountsAnew(t *testing.T) {
	each(t, func(t *testing.T, o origin) {
		x := filled(t, o)
		for _, ack := range []int{1, 51, 101} {
			x.in(x.comes(1, ack, 150, ""))
			x.in(x.comes(1, ack, 150, ""))
			x.out()
			x.in(x.comes(1, ack+1, 150, ""))
			x.out()
			x.in(x.comes(1, ack+1, 150, ""))
			x.in(x.comes(1, ack+1, 150, ""))
			x.sends()
			x.in(x.comes(1, ack+1, 150, ""))
			x.sends(x.goes(ack+1, 1, 2048, long(200)[ack:min(ack+100, 200)]))
		}
	})
}

// TestAckedGrowsTheWindow: by what is acknowledged, SYN included, at most an mss.
func TestAckedGrowsTheWindow(t *testing.T) {
	each(t, func(t *testing.T, o origin) {
		x := open(t, o, usualMss, 65535)
		check := func(want int) {
			t.Helper()
			if got := x.conn.window.Size(); got != want {
				t.Errorf("the Size is %d, not %d", got, want)
			}
		}
		check(201)
		x.write(long(400))
		x.out()
		x.in(x.comes(1, 31, 65535, ""))
		check(231)
		x.in(x.comes(1, 31, 65535, ""))
		check(231)
		x.in(x.comes(1, 202, 65535, ""))
		check(331)
	})
}
