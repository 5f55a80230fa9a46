package conn

import (
	"fmt"
	"math"
	"strings"
	"testing"

	"packetboat/api"
)

// P27

// portCases are Ports at both bounds, and beyond.
var portCases = []struct {
	port int
	want api.Errno
}{
	{math.MinInt, api.ErrArg}, {-1, api.ErrArg}, {0, api.ErrArg}, {1, api.OK}, {80, api.OK},
	{65535, api.OK}, {65536, api.ErrArg}, {1<<32 + 80, api.ErrArg}, {math.MaxInt, api.ErrArg},
}

// mssCases are an mss at both bounds, and beyond.
var mssCases = []struct {
	mss  int
	want api.Errno
}{
	{math.MinInt, api.ErrArg}, {-8, api.ErrArg}, {0, api.ErrArg}, {7, api.ErrArg}, {8, api.OK},
	{536, api.OK}, {1000, api.OK}, {1001, api.ErrArg}, {1<<32 + 8, api.ErrArg}, {math.MaxInt, api.ErrArg},
}

// checkMade checks that there is a connection in a state, if there is no error,
// and else none.
func checkMade(t *testing.T, c *Conn, got, want api.Errno, state int) {
	t.Helper()
	switch {
	case got != want:
		t.Errorf("it says %d, not %d", got, want)
	case (c != nil) != (want == api.OK):
		t.Errorf("beside %d there is %v", got, c)
	case c != nil && (c.State() != state || c.Why() != api.OK || c.Ready() != 0):
		t.Errorf("it begins as %d, %d, %d", c.State(), c.Why(), c.Ready())
	}
}

// plainSyn is a SYN from there.
var plainSyn = api.Seg{From: there, To: here, Seq: 5000, Syn: true, Win: usualWin}

func TestPorts(t *testing.T) {
	for _, p := range portCases {
		t.Run(fmt.Sprint(p.port), func(t *testing.T) {
			end := api.End{Addr: 3, Port: p.port}
			c, e := Dial(end, there, 1, 100)
			checkMade(t, c, e, p.want, api.SynSent)
			c, e = Dial(here, end, 1, 100)
			checkMade(t, c, e, p.want, api.SynSent)
			g := plainSyn
			g.To = end
			c, e = Take(end, g, 1, 100)
			checkMade(t, c, e, p.want, api.SynRcvd)
			g = plainSyn
			g.From = end
			c, e = Take(here, g, 1, 100)
			checkMade(t, c, e, p.want, api.SynRcvd)
		})
	}
}

func TestAddresses(t *testing.T) {
	for _, addr := range []uint32{0, 1, 1<<32 - 1} {
		end := api.End{Addr: addr, Port: 80}
		c, e := Dial(end, end, 1, 100)
		checkMade(t, c, e, api.OK, api.SynSent)
	}
}

func TestMss(t *testing.T) {
	for _, m := range mssCases {
		c, e := Dial(here, there, 1, m.mss)
		checkMade(t, c, e, m.want, api.SynSent)
		c, e = Take(here, plainSyn, 1, m.mss)
		checkMade(t, c, e, m.want, api.SynRcvd)
		if m.want == api.OK && c.Out()[0].Mss != m.mss {
			t.Errorf("an mss of %d is not told", m.mss)
		}
	}
}

// turned is plainSyn, changed.
func turned(change ...func(g *api.Seg)) api.Seg {
	g := plainSyn
	for _, f := range change {
		f(&g)
	}
	return g
}

// What may be wrong with a SYN, of each error that is told of it.
func badWin(g *api.Seg)    { g.Win = 65536 }
func badMss(g *api.Seg)    { g.Mss = -1 }
func badForm(g *api.Seg)   { g.Fin = true }
func badReset(g *api.Seg)  { g.Rst = true }
func badLength(g *api.Seg) { g.Body = long(1001) }
func badTo(g *api.Seg)     { g.To.Port++ }
func badAddr(g *api.Seg)   { g.To.Addr++ }
func noSyn(g *api.Seg)     { g.Syn = false }
func hasAck(g *api.Seg)    { g.HasAck, g.Ack = true, 7 }

func TestTakeTellsFirst(t *testing.T) {
	cases := []struct {
		name  string
		local api.End
		mss   int
		g     api.Seg
		want  api.Errno
	}{
		{"a SYN", here, 100, turned(), api.OK},
		{"a window too great", here, 100, turned(badWin), api.ErrArg},
		{"an Mss below 0", here, 100, turned(badMss), api.ErrArg},
		{"Syn and Fin", here, 100, turned(badForm), api.ErrForm},
		{"Syn and Rst", here, 100, turned(badReset), api.ErrForm},
		{"a Body too long", here, 100, turned(badLength), api.ErrLarge},
		{"another Port", here, 100, turned(badTo), api.ErrProto},
		{"another Addr", here, 100, turned(badAddr), api.ErrProto},
		{"another local", api.End{Addr: 1, Port: 1}, 100, turned(), api.ErrProto},
		{"no Syn", here, 100, turned(noSyn), api.ErrState},
		{"an Ack", here, 100, turned(noSyn, hasAck), api.ErrState},
		{"Syn with an Ack", here, 100, turned(hasAck), api.ErrState},
		{"a Rst", here, 100, turned(noSyn, badReset), api.ErrState},
		{"mss ahead of form", here, 7, turned(badForm), api.ErrArg},
		{"mss ahead of length", here, 1001, turned(badLength), api.ErrArg},
		{"mss ahead of To", here, 7, turned(badTo), api.ErrArg},
		{"local ahead of form", api.End{Addr: 1}, 100, turned(badForm), api.ErrArg},
		{"local ahead of Ack", api.End{Addr: 1}, 100, turned(hasAck), api.ErrArg},
		{"form ahead of To", here, 100, turned(badForm, badTo), api.ErrForm},
		{"length ahead of To", here, 100, turned(badLength, badTo), api.ErrLarge},
		{"length ahead of Ack", here, 100, turned(badLength, hasAck), api.ErrLarge},
		{"To ahead of Syn", here, 100, turned(badAddr, noSyn), api.ErrProto},
		{"To ahead of Ack", here, 100, turned(badTo, hasAck), api.ErrProto},
	}
	for _, k := range cases {
		t.Run(k.name, func(t *testing.T) {
			c, e := Take(k.local, k.g, 1, k.mss)
			checkMade(t, c, e, k.want, api.SynRcvd)
		})
	}
}

func TestRemoteIsFrom(t *testing.T) {
	g := plainSyn
	g.From = api.End{Addr: 77, Port: 777}
	c, _ := Take(here, g, 1, 100)
	if out := c.Out(); len(out) != 1 || out[0].To != g.From || out[0].From != here {
		t.Errorf("it goes %+v", out)
	}
}

// P28

// pieces are the lengths of what goes out of a text that is longer than all
// that may be on its way at first.
func pieces(x *trial) []int {
	x.write(long(2048))
	var list []int
	for _, g := range x.out() {
		list = append(list, len(g.Body))
	}
	return list
}

// TestMssOfSyn sees from what goes out first how long a Body may be, and how
// much may be on its way: twice as much, and 1 for SYN.
func TestMssOfSyn(t *testing.T) {
	cases := []struct{ mss, told, want int }{
		{1000, 0, 536}, {536, 0, 536}, {535, 0, 535}, {537, 0, 536}, {100, 0, 100},
		{100, 1, 8}, {100, 7, 8}, {100, 8, 8}, {100, 9, 9}, {8, 1, 8}, {8, 0, 8},
		{100, 99, 99}, {100, 100, 100}, {100, 101, 100}, {100, 65535, 100}, {1000, 1000, 1000}, {1000, 999, 999},
	}
	for _, k := range cases {
		want := fmt.Sprint([]int{k.want, k.want, 1})
		x := take(t, origins[0], k.mss, 65535, k.told)
		x.out()
		x.in(x.comes(1, 1, 65535, ""))
		if got := fmt.Sprint(pieces(x)); got != want {
			t.Errorf("Take with %d, %d: it goes by %s, not %s", k.mss, k.told, got, want)
		}
		x = dial(t, origins[0], k.mss)
		x.out()
		g := x.syn(65535, k.told)
		g.HasAck, g.Ack = true, x.iss+1
		x.in(g)
		if got := fmt.Sprint(pieces(x)); got != want {
			t.Errorf("Dial with %d, %d: it goes by %s, not %s", k.mss, k.told, got, want)
		}
	}
}

func TestSynThatCrossesTellsMss(t *testing.T) {
	x := dial(t, origins[0], 100)
	x.out()
	x.in(x.syn(65535, 40))
	x.sends(api.Seg{From: here, To: there, Seq: x.iss, Syn: true, HasAck: true, Ack: x.irs + 1, Win: 2048, Mss: 100})
	x.in(x.comes(1, 1, 65535, ""))
	if got := pieces(x); fmt.Sprint(got) != "[40 40 1]" {
		t.Errorf("it goes by %d", got)
	}
}

// TestMssBeforeSyn: what goes out before the other side told something is a SYN
// alone, however long the text is.
func TestMssBeforeSyn(t *testing.T) {
	each(t, func(t *testing.T, o origin) {
		x := dial(t, o, 8)
		x.write("hello")
		x.sends(api.Seg{From: here, To: there, Seq: o.iss, Syn: true, Win: 2048, Mss: 8})
		x.sends()
	})
}

func TestBodyOfSyn(t *testing.T) {
	each(t, func(t *testing.T, o origin) {
		x := dial(t, o, usualMss)
		x.out()
		g := x.syn(usualWin, 0)
		g.HasAck, g.Ack, g.Body = true, o.iss+1, "body"
		x.in(g)
		x.is(api.Established)
		x.sends(x.goes(1, 1, 2048, ""))
		_, _, e := x.read(9)
		x.says(e, api.ErrAgain)

		g = x.syn(usualWin, 0)
		g.Body = "body"
		c, e := Take(here, g, o.iss, usualMss)
		if e != api.OK {
			t.Fatal(e)
		}
		want := x.goes(0, 1, 2048, "")
		want.Syn, want.Mss = true, usualMss
		if got := c.Out(); len(got) != 1 || got[0] != want {
			t.Errorf("it goes %+v", got)
		}
		if _, _, e := c.Read(9); e != api.ErrAgain {
			t.Errorf("the Body of a SYN may be read: %d", e)
		}
	})
}

func TestWinOfSyn(t *testing.T) {
	each(t, func(t *testing.T, o origin) {
		x := dial(t, o, usualMss)
		x.out()
		g := x.syn(3, 0)
		g.HasAck, g.Ack = true, o.iss+1
		x.in(g)
		x.write("hello")
		x.sends(x.goes(1, 1, 2048, "hel"))
	})
}

func TestWhatASegmentSays(t *testing.T) {
	each(t, func(t *testing.T, o origin) {
		x := take(t, o, 77, usualWin, 30)
		x.sends(api.Seg{
			From: here, To: there, Seq: o.iss, HasAck: true, Ack: o.irs + 1, Syn: true, Win: 2048, Mss: 77,
		})
		x.in(x.comes(1, 1, usualWin, "abc"))
		x.sends(x.goes(1, 4, 2045, ""))
		x.in(x.comes(4, 1, usualWin, "def"))
		x.write("hi")
		x.sends(x.goes(1, 7, 2042, "hi"))
		x.reads("abcdef")
		x.write("!")
		x.close()
		x.sends(withFin(x.goes(3, 7, 2048, "!")))
		x.in(withFin(x.comes(7, 4, usualWin, "")))
		x.sends(x.goes(5, 8, 2048, ""))
		x.abort()
		x.sends(x.breaks(5))
	})
}

// P34

func TestWriteInEachState(t *testing.T) {
	for _, p := range places {
		want := api.OK
		switch p.state {
		case api.Closed, api.FinWait1, api.FinWait2, api.Closing, api.LastAck, api.TimeWait:
			want = api.ErrPipe
		}
		eachState(t, []place{p}, func(x *trial, p place) {
			for _, s := range []string{"", "hello"} {
				n, e := x.write(s)
				x.says(e, want)
				if want == api.OK && n != len(s) || want != api.OK && n != 0 {
					x.t.Errorf("of %q go %d", s, n)
				}
			}
		})
	}
}

func TestWriteOfAll(t *testing.T) {
	each(t, func(t *testing.T, o origin) {
		x := open(t, o, usualMss, usualWin)
		for _, k := range []struct {
			many, want int
			e          api.Errno
		}{
			{0, 0, api.OK}, {2000, 2000, api.OK}, {60, 48, api.OK}, {1, 0, api.ErrAgain}, {5000, 0, api.ErrAgain}, {0, 0, api.OK},
		} {
			n, e := x.write(long(k.many))
			x.says(e, k.e)
			if n != k.want {
				t.Errorf("of %d go %d, not %d", k.many, n, k.want)
			}
		}
		x.out()
		x.in(x.comes(1, 51, usualWin, ""))
		n, e := x.write(long(60))
		x.says(e, api.OK)
		if n != 50 {
			t.Errorf("there was room for %d", n)
		}
	})
}

func TestWhyOfWriteAndRead(t *testing.T) {
	each(t, func(t *testing.T, o origin) {
		for _, k := range []struct {
			name   string
			end    func() *trial
			write  api.Errno
			over   bool
			read   api.Errno
			masked int
		}{
			{"reset", func() *trial {
				x, p := brought(t, o, api.Established)
				x.in(x.reset(p.next))
				return x
			}, api.ErrReset, false, api.ErrReset, 5},
			{"refused", func() *trial {
				x, _ := brought(t, o, api.SynSent)
				g := x.reset(0)
				g.HasAck, g.Ack = true, o.iss+1
				x.in(g)
				return x
			}, api.ErrRefused, false, api.ErrRefused, 5},
			{"aborted", func() *trial {
				x, _ := brought(t, o, api.Established)
				x.abort()
				return x
			}, api.ErrPipe, false, api.ErrPipe, 5},
			{"never begun", func() *trial {
				x, _ := brought(t, o, api.SynSent)
				x.close()
				return x
			}, api.ErrPipe, true, api.OK, 1},
			{"done", func() *trial {
				x, p := brought(t, o, api.LastAck)
				x.in(x.comes(p.next, p.sent, usualWin, ""))
				return x
			}, api.ErrPipe, true, api.OK, 1},
			{"silent", func() *trial {
				x, _ := brought(t, o, api.SynSent)
				for range 9 {
					x.tick(64)
					x.out()
				}
				return x
			}, api.ErrTimeout, false, api.ErrTimeout, 5},
		} {
			x := k.end()
			x.is(api.Closed)
			for _, s := range []string{"", "hello"} {
				n, e := x.write(s)
				if n != 0 || e != k.write {
					t.Errorf("%s: Write says %d, %d", k.name, n, e)
				}
			}
			for _, most := range []int{-1, 0, 9} {
				s, over, e := x.read(most)
				if s != "" || over != k.over || e != k.read {
					t.Errorf("%s: Read says %q, %v, %d", k.name, s, over, e)
				}
			}
			if got := x.conn.Ready(); got != k.masked {
				t.Errorf("%s: it is ready for %d", k.name, got)
			}
		}
	})
}

func TestReadOfSoMany(t *testing.T) {
	each(t, func(t *testing.T, o origin) {
		x := open(t, o, usualMss, usualWin)
		x.in(x.comes(1, 1, usualWin, "abcdef"))
		for _, k := range []struct {
			most int
			want string
		}{
			{math.MinInt, ""}, {-1, ""}, {0, ""}, {1, "a"}, {2, "bc"}, {math.MaxInt, "def"},
		} {
			s, over, e := x.read(k.most)
			if s != k.want || over || e != api.OK {
				t.Errorf("Read %d says %q, %v, %d", k.most, s, over, e)
			}
		}
		for _, most := range []int{math.MinInt, -1, 0, 1, math.MaxInt} {
			s, over, e := x.read(most)
			if s != "" || over || e != api.ErrAgain {
				t.Errorf("Read %d says %q, %v, %d", most, s, over, e)
			}
		}
	})
}

func TestReadInEachState(t *testing.T) {
	for _, p := range places {
		var over bool
		want := api.ErrAgain
		switch p.state {
		case api.CloseWait, api.Closing, api.LastAck, api.TimeWait:
			over, want = true, api.OK
		case api.Closed:
			want = api.ErrPipe
		}
		eachState(t, []place{p}, func(x *trial, p place) {
			s, end, e := x.read(9)
			x.says(e, want)
			if s != "" || end != over {
				x.t.Errorf("it reads %q, %v", s, end)
			}
		})
	}
}

// TestReadBeforeTheEnd: what has come may be read, whatever came behind it; and
// the end of what came is told even if the connection was broken off behind it.
func TestReadBeforeTheEnd(t *testing.T) {
	each(t, func(t *testing.T, o origin) {
		x := open(t, o, usualMss, usualWin)
		x.in(x.comes(1, 1, usualWin, "abc"))
		x.in(x.reset(4))
		x.ended(api.ErrReset)
		x.reads("abc")
		_, _, e := x.read(9)
		x.says(e, api.ErrReset)

		x = open(t, o, usualMss, usualWin)
		x.in(withFin(x.comes(1, 1, usualWin, "abc")))
		x.abort()
		x.ended(api.ErrPipe)
		x.reads("abc")
		s, over, e := x.read(9)
		if s != "" || !over || e != api.OK {
			t.Errorf("it reads %q, %v, %d", s, over, e)
		}
	})
}

func TestCloseInEachState(t *testing.T) {
	for _, k := range []struct {
		state, behind int
		want, again   api.Errno
	}{
		{api.Closed, api.Closed, api.ErrState, api.ErrState},
		{api.SynSent, api.Closed, api.OK, api.ErrState},
		{api.SynRcvd, api.SynRcvd, api.OK, api.ErrPipe},
		{api.Established, api.FinWait1, api.OK, api.ErrPipe},
		{api.FinWait1, api.FinWait1, api.ErrPipe, api.ErrPipe},
		{api.FinWait2, api.FinWait2, api.ErrPipe, api.ErrPipe},
		{api.CloseWait, api.LastAck, api.OK, api.ErrPipe},
		{api.Closing, api.Closing, api.ErrPipe, api.ErrPipe},
		{api.LastAck, api.LastAck, api.ErrPipe, api.ErrPipe},
		{api.TimeWait, api.TimeWait, api.ErrPipe, api.ErrPipe},
	} {
		eachState(t, []place{places[k.state]}, func(x *trial, p place) {
			why := x.conn.Why()
			x.says(x.close(), k.want)
			x.is(k.behind)
			x.says(x.close(), k.again)
			x.is(k.behind)
			x.says(x.conn.Why(), why)
			n, e := x.write("x")
			x.says(e, api.ErrPipe)
			if n != 0 {
				x.t.Errorf("%d went", n)
			}
		})
	}
}

func TestCloseGoesBehindAll(t *testing.T) {
	each(t, func(t *testing.T, o origin) {
		x := open(t, o, usualMss, usualWin)
		x.write("hello")
		x.close()
		x.sends(withFin(x.goes(1, 1, 2048, "hello")))

		x, _ = brought(t, o, api.SynRcvd)
		x.write("hello")
		x.close()
		x.sends()
		x.in(x.comes(1, 1, usualWin, ""))
		x.is(api.FinWait1)
		x.sends(withFin(x.goes(1, 1, 2048, "hello")))

		x, _ = brought(t, o, api.SynSent)
		x.write("hello")
		x.close()
		x.ended(api.OK)
		x.sends()
	})
}

func TestAbortInEachState(t *testing.T) {
	eachState(t, places, func(x *trial, p place) {
		want := api.OK
		if p.state == api.Closed {
			want = api.ErrState
		}
		x.says(x.abort(), want)
		x.ended(api.ErrPipe)
		x.says(x.abort(), api.ErrState)
		x.ended(api.ErrPipe)
		switch p.state {
		case api.Closed, api.SynSent, api.TimeWait:
		default:
			x.sends(x.breaks(p.sent))
		}
		x.sends()
	})
}

// TestAbortBehindWhatWentOut: the Rst lies where the other side waits for the
// next one, behind all that went out, however little of it is acknowledged.
func TestAbortBehindWhatWentOut(t *testing.T) {
	each(t, func(t *testing.T, o origin) {
		x := open(t, o, usualMss, 150)
		x.write(long(500))
		x.out()
		x.tick(9)
		x.abort()
		x.sends(x.breaks(151))

		x = take(t, o, usualMss, usualWin, 0)
		x.abort()
		x.sends(x.breaks(0))

		x = dial(t, o, usualMss)
		x.abort()
		x.ended(api.ErrPipe)
		x.sends()
	})
}

// TestAskedOfClosed: a RST that was asked for goes out of a Closed one, too;
// nothing else does.
func TestAskedOfClosed(t *testing.T) {
	each(t, func(t *testing.T, o origin) {
		x, _ := brought(t, o, api.SynSent)
		x.in(x.comes(0, 7, usualWin, ""))
		x.close()
		x.ended(api.OK)
		x.sends(x.breaks(7))

		x, _ = brought(t, o, api.SynRcvd)
		x.in(x.comes(1, 9, usualWin, ""))
		x.in(x.syn(usualWin, 0))
		x.write("hello")
		x.abort()
		x.sends(x.breaks(9), x.breaks(1))
		x.sends()

		x, _ = brought(t, o, api.Established)
		x.in(x.comes(1, 1, usualWin, "abc"))
		x.write("hello")
		x.in(x.reset(4))
		x.sends()
	})
}

func TestReadyInEachState(t *testing.T) {
	want := map[int]int{
		api.Closed: 5, api.SynSent: 0, api.SynRcvd: 0, api.Established: 2, api.FinWait1: 0,
		api.FinWait2: 0, api.CloseWait: 3, api.Closing: 1, api.LastAck: 1, api.TimeWait: 1,
	}
	eachState(t, places, func(x *trial, p place) {
		if got := x.conn.Ready(); got != want[p.state] {
			x.t.Errorf("it is ready for %d", got)
		}
	})
}

func TestReady(t *testing.T) {
	each(t, func(t *testing.T, o origin) {
		x := open(t, o, usualMss, usualWin)
		check := func(want int) {
			t.Helper()
			if got := x.conn.Ready(); got != want {
				t.Fatalf("it is ready for %d, not %d, behind\n%s", got, want, x.told())
			}
		}
		check(api.CanWrite)
		x.in(x.comes(2, 1, usualWin, "b")) // there is a gap ahead of it
		check(api.CanWrite)
		x.in(x.comes(1, 1, usualWin, "a"))
		check(api.CanRead + api.CanWrite)
		x.write(long(2047))
		check(api.CanRead + api.CanWrite)
		x.write("x")
		check(api.CanRead)
		x.read(1)
		check(api.CanRead)
		x.read(1)
		check(0)
		x.out()
		x.in(x.comes(3, 2, usualWin, ""))
		check(api.CanWrite)
		x.in(withFin(x.comes(3, 2, usualWin, "c")))
		check(api.CanRead + api.CanWrite)
		x.read(1)
		check(api.CanRead + api.CanWrite)
		x.close()
		check(api.CanRead)
		x.abort()
		check(api.CanRead + api.HasError)
	})
}

func TestStateAndWhyAreAsked(t *testing.T) {
	eachState(t, places, func(x *trial, p place) {
		x.is(p.state)
		why := api.OK
		if p.state == api.Closed {
			why = api.ErrPipe
		}
		x.says(x.conn.Why(), why)
	})
}

// TestConnThatNobodyMade: P1: one that is neither of Dial nor of Take answers as
// a Closed one.
func TestConnThatNobodyMade(t *testing.T) {
	c := new(Conn)
	if n, e := c.Write("x"); n != 0 || e != api.ErrPipe {
		t.Error(n, e)
	}
	if s, over, e := c.Read(9); s != "" || !over || e != api.OK {
		t.Error(s, over, e)
	}
	if e := c.In(plainSyn); e != api.ErrProto {
		t.Error(e)
	}
	if e, other := c.Close(), c.Abort(); e != api.ErrState || other != api.ErrState {
		t.Error(e, other)
	}
	if e := c.Tick(100); e != api.OK || len(c.Out()) != 0 {
		t.Error(e)
	}
	if c.State() != api.Closed || c.Why() != api.OK || c.Ready() != api.CanRead {
		t.Error(c.State(), c.Why(), c.Ready())
	}
}

// P35

func TestRefuse(t *testing.T) {
	at := func(seq uint32, change ...func(g *api.Seg)) api.Seg {
		g := api.Seg{From: there, To: here, Seq: seq, Win: 9}
		for _, f := range change {
			f(&g)
		}
		return g
	}
	acks := func(n uint32) func(*api.Seg) { return func(g *api.Seg) { g.HasAck, g.Ack = true, n } }
	syn := func(g *api.Seg) { g.Syn, g.Mss = true, 500 }
	fin := func(g *api.Seg) { g.Fin = true }
	abc := func(g *api.Seg) { g.Body = "abc" }
	back := api.Seg{From: here, To: there, Rst: true}
	without := func(ack uint32) api.Seg { r := back; r.HasAck, r.Ack = true, ack; return r }
	with := func(seq uint32) api.Seg { r := back; r.Seq = seq; return r }
	for _, k := range []struct {
		name string
		g    api.Seg
		want api.Seg
		is   bool
	}{
		{"nothing", at(5), without(5), true},
		{"a SYN", at(5, syn), without(6), true},
		{"a FIN", at(5, fin), without(6), true},
		{"a Body", at(5, abc), without(8), true},
		{"a Body and a FIN", at(5, abc, fin), without(9), true},
		{"a SYN and a Body", at(5, abc, syn), without(9), true},
		{"a long Body", at(5, func(g *api.Seg) { g.Body = long(1000) }), without(1005), true},
		{"going round to 0", at(1<<32-1, syn), without(0), true},
		{"going round", at(1<<32-2, abc, fin), without(2), true},
		{"just not going round", at(1<<32-2, fin), without(1<<32 - 1), true},
		{"an Ack", at(5, acks(7)), with(7), true},
		{"an Ack of 0", at(5, acks(0)), with(0), true},
		{"the last Ack", at(5, acks(1<<32-1)), with(1<<32 - 1), true},
		{"an Ack and all", at(5, acks(7), abc, fin), with(7), true},
		{"a SYN with an Ack", at(5, acks(7), syn), with(7), true},
		{"a Rst", at(5, badReset), api.Seg{}, false},
		{"a Rst with an Ack", at(5, badReset, acks(7)), api.Seg{}, false},
		{"a Rst with a Body", at(5, badReset, abc), api.Seg{}, false},
		{"out of its form", at(5, syn, fin), api.Seg{}, false},
		{"an Ack without HasAck", at(5, func(g *api.Seg) { g.Ack = 1 }), api.Seg{}, false},
		{"an Mss without Syn", at(5, func(g *api.Seg) { g.Mss = 1 }), api.Seg{}, false},
		{"too long", at(5, badLength), api.Seg{}, false},
		{"a window too great", at(5, badWin), api.Seg{}, false},
		{"a window below 0", at(5, func(g *api.Seg) { g.Win = -1 }), api.Seg{}, false},
		{"no Port", at(5, func(g *api.Seg) { g.From.Port = 0 }), api.Seg{}, false},
		{"a Port too great", at(5, func(g *api.Seg) { g.To.Port = 65536 }), api.Seg{}, false},
	} {
		got, is := Refuse(k.g)
		if got != k.want || is != k.is {
			t.Errorf("%s: %+v, %v, not %+v, %v", k.name, got, is, k.want, k.is)
		}
		if slow, slowly := slowRefuse(k.g); slow != k.want || slowly != k.is {
			t.Errorf("%s: slowly %+v, %v", k.name, slow, slowly)
		}
	}
}

// TestRefusalIsTaken: what Refuse answers ends the connection that sent what is
// refused, in each state in which something of it goes out.
func TestRefusalIsTaken(t *testing.T) {
	each(t, func(t *testing.T, o origin) {
		x := dial(t, o, usualMss)
		r, _ := Refuse(x.out()[0])
		x.says(x.in(r), api.OK)
		x.ended(api.ErrRefused)

		for _, state := range []int{api.SynRcvd, api.Established} {
			x, _ = brought(t, o, state)
			x.in(x.comes(1, 1, usualWin, "abc"))
			list := x.out()
			r, is := Refuse(list[len(list)-1])
			if !is || r.Seq != o.irs+4 {
				t.Fatalf("%+v is answered %+v", list, r)
			}
			x.in(r)
			x.ended(api.ErrReset)
		}
	})
}

// P2

func TestAnswersStay(t *testing.T) {
	each(t, func(t *testing.T, o origin) {
		x := open(t, o, usualMss, usualWin)
		x.write(long(150))
		list := x.out()
		was := fmt.Sprint(list)
		for i := range list {
			list[i] = api.Seg{Body: "changed"}
		}
		_ = append(list[:0], api.Seg{Rst: true}, api.Seg{Rst: true}, api.Seg{Rst: true})
		x.tick(64)
		first := x.out()
		x.in(x.comes(1, 101, usualWin, ""))
		x.sends(x.goes(101, 1, 2048, long(150)[100:]))
		if got := fmt.Sprint(append(first, x.goes(101, 1, 2048, long(150)[100:]))); got != was {
			t.Errorf("again goes %s, not %s", got, was)
		}
	})
}

func TestManyRstsStay(t *testing.T) {
	x, _ := brought(t, origins[0], api.SynSent)
	x.in(x.comes(0, 5, usualWin, ""))
	x.in(x.comes(0, 6, usualWin, ""))
	list := x.out()
	x.in(x.comes(0, 7, usualWin, ""))
	x.in(x.comes(0, 8, usualWin, ""))
	if list[0] != x.breaks(5) || list[1] != x.breaks(6) {
		t.Errorf("what went out is %+v now", list)
	}
	x.sends(x.breaks(7), x.breaks(8))
}

// TestTwoConnections: what befalls one of them is of no matter for the other.
func TestTwoConnections(t *testing.T) {
	each(t, func(t *testing.T, o origin) {
		x, y := open(t, o, usualMss, usualWin), open(t, o, usualMss, usualWin)
		x.write("hello")
		x.in(x.comes(1, 1, usualWin, "abc"))
		x.tick(100)
		y.sends()
		_, _, e := y.read(9)
		y.says(e, api.ErrAgain)
		x.out()
		x.close()
		x.abort()
		y.is(api.Established)
		y.write("there")
		y.sends(y.goes(1, 1, 2048, "there"))
		y.tick(2)
		x.ended(api.ErrPipe)
		x.sends(x.breaks(6))
		y.sends(y.goes(1, 1, 2048, "there"))
	})
}

// TestTextsStay: a text that was read stays as it was, as the bytes behind it
// come to lie where it lay.
func TestTextsStay(t *testing.T) {
	x := open(t, origins[0], usualMss, usualWin)
	x.in(x.comes(1, 1, usualWin, strings.Repeat("a", 1000)))
	s, _, _ := x.read(2048)
	for i := range 5 {
		x.in(x.comes(1001+1000*i, 1, usualWin, strings.Repeat("b", 1000)))
		x.read(2048)
	}
	if s != strings.Repeat("a", 1000) {
		t.Error("what was read has changed")
	}
}
