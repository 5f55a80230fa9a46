package tcp

import (
	"encoding/binary"
	"math"
	"strings"
	"testing"

	"packetboat/api"
	"packetboat/ip"
	"packetboat/sum"
)

// lot draws the same numbers at each run.
type lot uint64

func (l *lot) draw(n int) int {
	*l ^= *l << 13
	*l ^= *l >> 7
	*l ^= *l << 17
	return int(uint64(*l) % uint64(n))
}

func (l *lot) text(n int) string {
	b := make([]byte, n)
	for i := range b {
		b[i] = byte(l.draw(256))
	}
	return string(b)
}

// plain is a segment that Check finds no fault with.
func plain() api.Seg {
	return api.Seg{From: api.End{Addr: 0xc0a80001, Port: 5353}, To: api.End{Addr: 0x0a0109c7, Port: 80},
		Seq: 0x01020304, Ack: 0xf1f2f3f4, HasAck: true, Win: 2048, Body: "hello"}
}

// begin is one with Syn and an Mss.
func begin() api.Seg {
	return api.Seg{From: api.End{Addr: 0xc0a80001, Port: 5353}, To: api.End{Addr: 0x0a0109c7, Port: 80},
		Seq: 0x01020304, Syn: true, Win: 2048, Mss: 536}
}

// zeroSum is one whose check sum is 0.
func zeroSum() api.Seg {
	return api.Seg{From: api.End{Port: 1}, To: api.End{Port: 45028}}
}

// with is plain with something changed.
func with(change func(g *api.Seg)) api.Seg {
	g := plain()
	change(&g)
	return g
}

// some is n bytes.
func some(n int) string {
	return strings.Repeat("x", n)
}

// slowCheck asks for each thing by itself, in the chapter's order.
func slowCheck(g api.Seg) api.Errno {
	for _, port := range []int{g.From.Port, g.To.Port} {
		if port == 0 || port != port&0xffff {
			return api.ErrArg
		}
	}
	if g.Win != g.Win&0xffff || g.Mss != g.Mss&0xffff {
		return api.ErrArg
	}
	if g.Mss > 0 && !g.Syn {
		return api.ErrForm
	}
	alone := 0
	for _, set := range []bool{g.Syn, g.Fin, g.Rst} {
		if set {
			alone++
		}
	}
	if alone > 1 {
		return api.ErrForm
	}
	if g.Ack > 0 && !g.HasAck {
		return api.ErrForm
	}
	if len(g.Body) >= 1001 {
		return api.ErrLarge
	}
	return api.OK
}

// slowSum adds all words but that of the check sum, by remainders. What is
// summed is never zeros alone, for the protocol is among it: the remainder 0 is
// a Sum of 65535, whose Check is 0.
func slowSum(src, dst uint32, s string) uint16 {
	total := int(src>>16) + int(src&0xffff) + int(dst>>16) + int(dst&0xffff) + 6 + len(s)%65536
	for i := range len(s) {
		switch {
		case i == 16 || i == 17:
		case i%2 == 0:
			total += int(s[i]) * 256
		default:
			total += int(s[i])
		}
	}
	if total%65535 == 0 {
		return 0
	}
	return uint16(65535 - total%65535)
}

// slowBytes writes g, with these options, which are in whole words, whether or
// not Check finds fault with it; its Mss is not told.
func slowBytes(g api.Seg, options string) string {
	flags := 0
	for _, f := range []struct {
		set bool
		bit int
	}{{g.Fin, 1}, {g.Syn, 2}, {g.Rst, 4}, {g.HasAck, 16}} {
		if f.set {
			flags += f.bit
		}
	}
	b := binary.BigEndian.AppendUint16(nil, uint16(g.From.Port))
	b = binary.BigEndian.AppendUint16(b, uint16(g.To.Port))
	b = binary.BigEndian.AppendUint32(b, g.Seq)
	b = binary.BigEndian.AppendUint32(b, g.Ack)
	b = append(b, byte(16*(5+len(options)/4)), byte(flags))
	b = binary.BigEndian.AppendUint16(b, uint16(g.Win))
	b = append(b, 0, 0, 0, 0)
	b = append(b, options...)
	b = append(b, g.Body...)
	return summed(g.From.Addr, g.To.Addr, string(b))
}

// mssOption is the option that tells n.
func mssOption(n int) string {
	return string([]byte{2, 4, byte(n / 256), byte(n % 256)})
}

func slowWrite(g api.Seg) (string, api.Errno) {
	if e := slowCheck(g); e != api.OK {
		return "", e
	}
	if g.Mss > 0 {
		return slowBytes(g, mssOption(g.Mss)), api.OK
	}
	return slowBytes(g, ""), api.OK
}

// slowOptions takes one option, and then what is behind it; mss is what was
// told so far.
func slowOptions(b []byte, mss int) (int, bool) {
	if len(b) == 0 || b[0] == 0 {
		return mss, true
	}
	if b[0] == 1 {
		return slowOptions(b[1:], mss)
	}
	if len(b) == 1 || b[1] == 0 || b[1] == 1 || len(b) < int(b[1]) {
		return 0, false
	}
	if b[0] == 2 && b[1] != 4 {
		return 0, false
	}
	if b[0] == 2 {
		mss = int(b[2])*256 + int(b[3])
	}
	return slowOptions(b[b[1]:], mss)
}

// slowRead asks for each fault by itself, in the chapter's order.
func slowRead(src, dst uint32, s string) (api.Seg, api.Errno) {
	b := []byte(s)
	if len(b) < 20 {
		return api.Seg{}, api.ErrShort
	}
	words, stray := int(b[12]>>4), b[12]&15
	if words < 5 {
		return api.Seg{}, api.ErrForm
	}
	if stray != 0 {
		return api.Seg{}, api.ErrForm
	}
	if len(b) < 4*words {
		return api.Seg{}, api.ErrShort
	}
	if binary.BigEndian.Uint16(b[16:]) != slowSum(src, dst, s) {
		return api.Seg{}, api.ErrSum
	}
	if b[13] >= 32 {
		return api.Seg{}, api.ErrForm
	}
	if b[18] != 0 || b[19] != 0 {
		return api.Seg{}, api.ErrForm
	}
	mss, ok := slowOptions(b[20:4*words], 0)
	if !ok {
		return api.Seg{}, api.ErrForm
	}
	g := api.Seg{
		From:   api.End{Addr: src, Port: int(binary.BigEndian.Uint16(b))},
		To:     api.End{Addr: dst, Port: int(binary.BigEndian.Uint16(b[2:]))},
		Seq:    binary.BigEndian.Uint32(b[4:]),
		Ack:    binary.BigEndian.Uint32(b[8:]),
		Fin:    b[13]%2 == 1,
		Syn:    b[13]/2%2 == 1,
		Rst:    b[13]/4%2 == 1,
		HasAck: b[13]/16%2 == 1,
		Win:    int(binary.BigEndian.Uint16(b[14:])),
		Mss:    mss,
		Body:   string(b[4*words:]),
	}
	if e := slowCheck(g); e != api.OK {
		return api.Seg{}, e
	}
	return g, api.OK
}

// summed is s with the check sum that belongs there.
func summed(src, dst uint32, s string) string {
	return put(s, 16, string(binary.BigEndian.AppendUint16(nil, slowSum(src, dst, s))))
}

// put is s with other bytes from at on.
func put(s string, at int, other string) string {
	return s[:at] + other + s[at+len(other):]
}

// turned is s with some bits of a byte turned.
func turned(s string, at int, bits byte) string {
	return put(s, at, string([]byte{s[at] ^ bits}))
}

// brief is g with no more of Body than a message should have.
func brief(g api.Seg) api.Seg {
	g.Body = g.Body[:min(len(g.Body), 40)]
	return g
}

// checkAll holds Check, Write and Read of g against what is asked for.
func checkAll(t *testing.T, g api.Seg) {
	t.Helper()
	if e, want := Check(g), slowCheck(g); e != want {
		t.Errorf("Check(%#v) is %d, not %d", brief(g), e, want)
	}
	s, e := Write(g)
	if want, wantE := slowWrite(g); s != want || e != wantE {
		t.Errorf("Write(%#v) is %.60q, %d, not %.60q, %d", brief(g), s, e, want, wantE)
	}
	if e != api.OK {
		return
	}
	if back, e := Read(g.From.Addr, g.To.Addr, s); back != g || e != api.OK {
		t.Errorf("Read of Write(%#v) is %#v, %d", brief(g), brief(back), e)
	}
}

func checkRead(t *testing.T, src, dst uint32, s string) {
	t.Helper()
	got, e := Read(src, dst, s)
	if want, wantE := slowRead(src, dst, s); got != want || e != wantE {
		t.Errorf("Read(%#x, %#x, %.60q) is %#v, %d, not %#v, %d", src, dst, s, brief(got), e, brief(want), wantE)
	}
}

// checkCase is a segment by its name, and what Check says of it.
type checkCase struct {
	name string
	g    api.Seg
	want api.Errno
}

func checkThese(t *testing.T, cases []checkCase) {
	t.Helper()
	for _, c := range cases {
		if e := Check(c.g); e != c.want {
			t.Errorf("%s: Check is %d, not %d", c.name, e, c.want)
		}
		s, e := Write(c.g)
		if e != c.want {
			t.Errorf("%s: Write is %d, not %d", c.name, e, c.want)
		}
		if e != api.OK && s != "" {
			t.Errorf("%s: Write tells %.60q beside an error", c.name, s)
		}
		checkAll(t, c.g)
	}
}

func TestCheckOfPorts(t *testing.T) {
	from := func(n int) api.Seg { return with(func(g *api.Seg) { g.From.Port = n }) }
	to := func(n int) api.Seg { return with(func(g *api.Seg) { g.To.Port = n }) }
	checkThese(t, []checkCase{
		{"plain", plain(), api.OK},
		{"begin", begin(), api.OK},
		{"zeros", api.Seg{}, api.ErrArg},
		{"From -1", from(-1), api.ErrArg},
		{"From 0", from(0), api.ErrArg},
		{"From 1", from(1), api.OK},
		{"From 65535", from(65535), api.OK},
		{"From 65536", from(65536), api.ErrArg},
		{"From 65537", from(65537), api.ErrArg},
		{"From -65535", from(-65535), api.ErrArg},
		{"From 2^32 + 1", from(1<<32 + 1), api.ErrArg},
		{"From at the most of an int", from(math.MaxInt), api.ErrArg},
		{"From at the least of an int", from(math.MinInt), api.ErrArg},
		{"From at the least of an int, and 1", from(math.MinInt + 1), api.ErrArg},
		{"To -1", to(-1), api.ErrArg},
		{"To 0", to(0), api.ErrArg},
		{"To 1", to(1), api.OK},
		{"To 65535", to(65535), api.OK},
		{"To 65536", to(65536), api.ErrArg},
		{"To 65537", to(65537), api.ErrArg},
		{"To -65535", to(-65535), api.ErrArg},
		{"To 2^32 + 1", to(1<<32 + 1), api.ErrArg},
		{"To at the most of an int", to(math.MaxInt), api.ErrArg},
		{"To at the least of an int", to(math.MinInt), api.ErrArg},
		{"To at the least of an int, and 1", to(math.MinInt + 1), api.ErrArg},
		{"the same End", with(func(g *api.Seg) { g.To = g.From }), api.OK},
		{"no Addrs, and Ports at their least", api.Seg{From: api.End{Port: 1}, To: api.End{Port: 1}}, api.OK},
	})
}

func TestCheckOfWinAndMss(t *testing.T) {
	win := func(n int) api.Seg { return with(func(g *api.Seg) { g.Win = n }) }
	mss := func(n int) api.Seg { return with(func(g *api.Seg) { g.Syn, g.Mss = true, n }) }
	bare := func(n int) api.Seg { return with(func(g *api.Seg) { g.Mss = n }) }
	checkThese(t, []checkCase{
		{"Win -1", win(-1), api.ErrArg},
		{"Win 0", win(0), api.OK},
		{"Win 1", win(1), api.OK},
		{"Win 65535", win(65535), api.OK},
		{"Win 65536", win(65536), api.ErrArg},
		{"Win at the most of an int", win(math.MaxInt), api.ErrArg},
		{"Win at the least of an int", win(math.MinInt), api.ErrArg},
		{"Mss -1", mss(-1), api.ErrArg},
		{"Mss 0", mss(0), api.OK},
		{"Mss 1", mss(1), api.OK},
		{"Mss 7, which no connection has", mss(7), api.OK},
		{"Mss 65535", mss(65535), api.OK},
		{"Mss 65536", mss(65536), api.ErrArg},
		{"Mss at the most of an int", mss(math.MaxInt), api.ErrArg},
		{"Mss at the least of an int", mss(math.MinInt), api.ErrArg},
		{"Mss -1 without Syn", bare(-1), api.ErrArg},
		{"Mss 0 without Syn", bare(0), api.OK},
		{"Mss 1 without Syn", bare(1), api.ErrForm},
		{"Mss 65535 without Syn", bare(65535), api.ErrForm},
		{"Mss 65536 without Syn", bare(65536), api.ErrArg},
	})
}

func TestCheckOfFlagsAndBody(t *testing.T) {
	set := func(syn, fin, rst bool) api.Seg {
		return with(func(g *api.Seg) { g.Syn, g.Fin, g.Rst = syn, fin, rst })
	}
	mss := func(fin, rst bool) api.Seg {
		return with(func(g *api.Seg) { g.Fin, g.Rst, g.Mss = fin, rst, 536 })
	}
	ack := func(n uint32, has bool) api.Seg { return with(func(g *api.Seg) { g.Ack, g.HasAck = n, has }) }
	body := func(n int) api.Seg { return with(func(g *api.Seg) { g.Body = some(n) }) }
	checkThese(t, []checkCase{
		{"Syn", set(true, false, false), api.OK},
		{"Fin", set(false, true, false), api.OK},
		{"Rst", set(false, false, true), api.OK},
		{"Syn beside Fin", set(true, true, false), api.ErrForm},
		{"Syn beside Rst", set(true, false, true), api.ErrForm},
		{"Fin beside Rst", set(false, true, true), api.ErrForm},
		{"Syn, Fin, Rst", set(true, true, true), api.ErrForm},
		{"an Mss with Fin", mss(true, false), api.ErrForm},
		{"an Mss with Rst", mss(false, true), api.ErrForm},
		{"Ack 0, HasAck", ack(0, true), api.OK},
		{"Ack 1, HasAck", ack(1, true), api.OK},
		{"Ack at its most, HasAck", ack(math.MaxUint32, true), api.OK},
		{"Ack 0", ack(0, false), api.OK},
		{"Ack 1", ack(1, false), api.ErrForm},
		{"Ack 2^31", ack(1<<31, false), api.ErrForm},
		{"Ack at its most", ack(math.MaxUint32, false), api.ErrForm},
		{"an empty Body", body(0), api.OK},
		{"a Body of 1", body(1), api.OK},
		{"a Body of 999", body(999), api.OK},
		{"a Body of 1000", body(1000), api.OK},
		{"a Body of 1001", body(1001), api.ErrLarge},
		{"a Body of 2^16", body(1 << 16), api.ErrLarge},
		{"a Body of 2^20", body(1 << 20), api.ErrLarge},
		{"Syn with a Body of 1000", with(func(g *api.Seg) { g.Syn, g.Mss, g.Body = true, 1, some(1000) }), api.OK},
		{"Fin with a Body of 1000", with(func(g *api.Seg) { g.Fin, g.Body = true, some(1000) }), api.OK},
		{"Rst with a Body of 1000", with(func(g *api.Seg) { g.Rst, g.Body = true, some(1000) }), api.OK},
		{"Seq 0", with(func(g *api.Seg) { g.Seq = 0 }), api.OK},
		{"Seq at its most", with(func(g *api.Seg) { g.Seq = math.MaxUint32 }), api.OK},
	})
}

// argFaults and formFaults change one thing each, so that Check finds fault.
func argFaults() []func(g *api.Seg) {
	return []func(g *api.Seg){
		func(g *api.Seg) { g.From.Port = 0 },
		func(g *api.Seg) { g.To.Port = 65536 },
		func(g *api.Seg) { g.Win = -1 },
		func(g *api.Seg) { g.Mss = 65536 },
		func(g *api.Seg) { g.Mss = -1 },
	}
}

func formFaults() []func(g *api.Seg) {
	return []func(g *api.Seg){
		func(g *api.Seg) { g.Syn, g.Mss = false, 1 },
		func(g *api.Seg) { g.Syn, g.Fin = true, true },
		func(g *api.Seg) { g.Syn, g.Rst = true, true },
		func(g *api.Seg) { g.Fin, g.Rst = true, true },
		func(g *api.Seg) { g.Ack, g.HasAck = 1, false },
	}
}

// Of several faults the one that is told first is the answer.
func TestCheckOfSeveralFaults(t *testing.T) {
	large := func(g *api.Seg) { g.Body = some(1001) }
	for i, form := range formFaults() {
		checkThese(t, []checkCase{
			{"a form", with(form), api.ErrForm},
			{"a form, and too large", with(func(g *api.Seg) { form(g); large(g) }), api.ErrForm},
		})
		for k, arg := range argFaults() {
			both := with(func(g *api.Seg) { form(g); arg(g) })
			all := with(func(g *api.Seg) { form(g); arg(g); large(g) })
			if e := Check(both); e != api.ErrArg {
				t.Errorf("form %d and argument %d: Check is %d", i, k, e)
			}
			if e := Check(all); e != api.ErrArg {
				t.Errorf("form %d, argument %d, and too large: Check is %d", i, k, e)
			}
			checkAll(t, both)
			checkAll(t, all)
		}
	}
	for k, arg := range argFaults() {
		g := with(func(g *api.Seg) { arg(g); large(g) })
		if e := Check(g); e != api.ErrArg {
			t.Errorf("argument %d, and too large: Check is %d", k, e)
		}
		checkAll(t, g)
	}
}

// Each combination of flags, with an Ack, an Mss and a Body and without.
func TestEveryCombination(t *testing.T) {
	for n := range 128 {
		bit := func(i int) bool { return n>>i&1 == 1 }
		g := api.Seg{From: api.End{Addr: 1, Port: 7}, To: api.End{Addr: 2, Port: 9}, Seq: 77, Win: 300,
			Syn: bit(0), HasAck: bit(1), Fin: bit(2), Rst: bit(3)}
		if bit(4) {
			g.Ack = 99
		}
		if bit(5) {
			g.Mss = 536
		}
		if bit(6) {
			g.Body = "hello"
		}
		checkAll(t, g)
	}
}

func TestLength(t *testing.T) {
	cases := []struct {
		syn, fin bool
		body     int
		want     int
	}{
		{false, false, 0, 0}, {true, false, 0, 1}, {false, true, 0, 1}, {true, true, 0, 2},
		{false, false, 1, 1}, {true, false, 1, 2}, {false, true, 1, 2}, {true, true, 1, 3},
		{false, false, 1000, 1000}, {true, false, 1000, 1001}, {false, true, 1000, 1001}, {true, true, 1000, 1002},
		{false, false, 1001, 1001}, {true, true, 1 << 20, 1<<20 + 2},
	}
	for _, c := range cases {
		// What Check would say is of no matter, nor are the other fields.
		for _, rest := range []api.Seg{{}, plain(), {Rst: true, HasAck: true, Ack: 7, Seq: 9, Win: -1, Mss: 1 << 40}} {
			g := rest
			g.Syn, g.Fin, g.Body = c.syn, c.fin, some(c.body)
			if n := Length(g); n != c.want {
				t.Errorf("Length with Syn %t, Fin %t and a Body of %d is %d, not %d", c.syn, c.fin, c.body, n, c.want)
			}
		}
	}
}

func TestWriteOfGivenSegments(t *testing.T) {
	ones := func(g api.Seg) api.Seg {
		g.From.Port, g.To.Port = 1, 1
		return g
	}
	const ports = "\x00\x01\x00\x01\x00\x00\x00\x00\x00\x00\x00\x00"
	cases := []struct {
		name string
		g    api.Seg
		want string
	}{
		{"Syn, HasAck, an Mss and a byte", api.Seg{From: api.End{Addr: 1, Port: 7}, To: api.End{Addr: 2, Port: 9},
			Seq: 5, Ack: 6, HasAck: true, Syn: true, Win: 300, Mss: 100, Body: "x"},
			"\x00\x07\x00\x09\x00\x00\x00\x05\x00\x00\x00\x06\x60\x12\x01\x2c\x24\x1c\x00\x00\x02\x04\x00\x64x"},
		{"nothing", ones(api.Seg{}), ports + "\x50\x00\x00\x00\xaf\xe3\x00\x00"},
		{"Fin", ones(api.Seg{Fin: true}), ports + "\x50\x01\x00\x00\xaf\xe2\x00\x00"},
		{"Syn", ones(api.Seg{Syn: true}), ports + "\x50\x02\x00\x00\xaf\xe1\x00\x00"},
		{"Rst", ones(api.Seg{Rst: true}), ports + "\x50\x04\x00\x00\xaf\xdf\x00\x00"},
		{"HasAck", ones(api.Seg{HasAck: true}), ports + "\x50\x10\x00\x00\xaf\xd3\x00\x00"},
		{"Fin, HasAck", ones(api.Seg{Fin: true, HasAck: true}), ports + "\x50\x11\x00\x00\xaf\xd2\x00\x00"},
		{"Syn, HasAck", ones(api.Seg{Syn: true, HasAck: true}), ports + "\x50\x12\x00\x00\xaf\xd1\x00\x00"},
		{"Rst, HasAck", ones(api.Seg{Rst: true, HasAck: true}), ports + "\x50\x14\x00\x00\xaf\xcf\x00\x00"},
		{"Syn, Mss 1", ones(api.Seg{Syn: true, Mss: 1}), ports + "\x60\x02\x00\x00\x9d\xd8\x00\x00\x02\x04\x00\x01"},
		{"a byte, which is the higher one of its word", ones(api.Seg{Body: "\x01"}),
			ports + "\x50\x00\x00\x00\xae\xe2\x00\x00\x01"},
		{"a byte 0, which is told all the same", ones(api.Seg{Body: "\x00"}),
			ports + "\x50\x00\x00\x00\xaf\xe2\x00\x00\x00"},
		{"each field by itself", api.Seg{From: api.End{Addr: 0x01020304, Port: 0x090a},
			To: api.End{Addr: 0x05060708, Port: 0x0b0c}, Seq: 0x0d0e0f10, Ack: 0x11121314, HasAck: true, Win: 0x1516,
			Body: "\x17\x18\x19"},
			"\x09\x0a\x0b\x0c\x0d\x0e\x0f\x10\x11\x12\x13\x14\x50\x10\x15\x16\x06\x36\x00\x00\x17\x18\x19"},
		{"an Mss of two bytes", api.Seg{From: api.End{Addr: 0x01020304, Port: 0x090a},
			To: api.End{Addr: 0x05060708, Port: 0x0b0c}, Seq: 0x0d0e0f10, Syn: true, Win: 0x1516, Mss: 0x1718},
			"\x09\x0a\x0b\x0c\x0d\x0e\x0f\x10\x00\x00\x00\x00\x60\x02\x15\x16\x31\x65\x00\x00\x02\x04\x17\x18"},
		{"all at their most", api.Seg{From: api.End{Addr: math.MaxUint32, Port: 65535},
			To: api.End{Addr: math.MaxUint32, Port: 65535}, Seq: math.MaxUint32, Ack: math.MaxUint32, HasAck: true,
			Syn: true, Win: 65535, Mss: 65535}, strings.Repeat("\xff", 12) + "\x60\x12\xff\xff\x9d\xcb\x00\x00\x02\x04\xff\xff"},
		{"a check sum of 0, which stays 0", zeroSum(),
			"\x00\x01\xaf\xe4\x00\x00\x00\x00\x00\x00\x00\x00\x50\x00\x00\x00\x00\x00\x00\x00"},
		{"a check sum of 1", api.Seg{From: api.End{Port: 1}, To: api.End{Port: 45027}},
			"\x00\x01\xaf\xe3\x00\x00\x00\x00\x00\x00\x00\x00\x50\x00\x00\x00\x00\x01\x00\x00"},
		{"a check sum of 65534", api.Seg{From: api.End{Port: 1}, To: api.End{Port: 45029}},
			"\x00\x01\xaf\xe5\x00\x00\x00\x00\x00\x00\x00\x00\x50\x00\x00\x00\xff\xfe\x00\x00"},
	}
	for _, c := range cases {
		if got, e := Write(c.g); got != c.want || e != api.OK {
			t.Errorf("%s: Write is %q, %d, not %q", c.name, got, e, c.want)
		}
		if got, e := Read(c.g.From.Addr, c.g.To.Addr, c.want); got != c.g || e != api.OK {
			t.Errorf("%s: Read is %#v, %d, not %#v", c.name, got, e, c.g)
		}
		checkAll(t, c.g)
	}
}

// The promise's own words: sum.Check of ip.Pseudo and all bytes, with 0 at the
// check sum's place.
func TestWriteByTheWords(t *testing.T) {
	for _, head := range []api.Seg{plain(), begin()} {
		for _, n := range []int{0, 1, 2, 3, 5, 8, 255, 256, 999, 1000} {
			g := head
			g.Body = some(n)
			ahead := 20
			if g.Mss != 0 {
				ahead = 24
			}
			s, e := Write(g)
			if e != api.OK || len(s) != ahead+n {
				t.Fatalf("Write with a Body of %d is %d bytes, %d", n, len(s), e)
			}
			want := sum.Check(ip.Pseudo(g.From.Addr, g.To.Addr, api.ProtoTcp, ahead+n) + put(s, 16, "\x00\x00"))
			if got := binary.BigEndian.Uint16([]byte(s[16:])); got != want {
				t.Errorf("with a Body of %d the check sum is %#04x, not %#04x", n, got, want)
			}
			if s[ahead:] != g.Body {
				t.Errorf("the body is %.40q, not %.40q", s[ahead:], g.Body)
			}
		}
	}
}

func TestEveryLength(t *testing.T) {
	l := lot(3)
	for n := range 1005 {
		for _, body := range []string{some(n), strings.Repeat("\xff", n), strings.Repeat("\x00", n), l.text(n)} {
			g := plain()
			g.Body = body
			checkAll(t, g)
			g = begin()
			g.Body = body
			checkAll(t, g)
		}
	}
}

// Every number of two bytes in each field that has two, and those just beyond.
func TestEveryNumber(t *testing.T) {
	for n := -2; n < 65540; n++ {
		checkAll(t, with(func(g *api.Seg) { g.From.Port = n }))
		checkAll(t, with(func(g *api.Seg) { g.To.Port = n }))
		checkAll(t, with(func(g *api.Seg) { g.Win = n }))
		checkAll(t, with(func(g *api.Seg) { g.Syn, g.Mss = true, n }))
	}
}

func TestDrawnSegments(t *testing.T) {
	l := lot(7)
	ends := []uint32{0, 1, 0xffff, 0x10000, 0xffff0000, math.MaxUint32}
	word := func() uint32 {
		if l.draw(4) == 0 {
			return ends[l.draw(len(ends))]
		}
		return uint32(l.draw(1 << 32))
	}
	for range 20000 {
		g := api.Seg{
			From: api.End{Addr: word(), Port: 1 + l.draw(65535)},
			To:   api.End{Addr: word(), Port: 1 + l.draw(65535)},
			Seq:  word(),
			Win:  l.draw(65536),
			Body: l.text(l.draw(40)),
		}
		switch l.draw(4) {
		case 0:
			g.Syn, g.Mss = true, l.draw(65536)
		case 1:
			g.Fin = true
		case 2:
			g.Rst = true
		}
		if l.draw(3) > 0 {
			g.HasAck, g.Ack = true, word()
		}
		if e := Check(g); e != api.OK {
			t.Fatalf("Check(%#v) is %d", g, e)
		}
		checkAll(t, g)
	}
}
