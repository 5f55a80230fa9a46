package udp

import (
	"encoding/binary"
	"math"
	"strings"
	"testing"
	"unsafe"

	"packetboat/api"
	"packetboat/ip"
	"packetboat/sum"
)

// lot draws the same numbers at each run.
type lot uint64

func (l *lot) draw(n int) int {
	*l ^= *l << 13
	*l ^= *l >> 7
	*l ^= *l << 17
	return int(uint64(*l) % uint64(n))
}

func (l *lot) text(n int) string {
	b := make([]byte, n)
	for i := range b {
		b[i] = byte(l.draw(256))
	}
	return string(b)
}

// plain is a datagram that Check finds no fault with.
func plain() api.Gram {
	return api.Gram{From: api.End{Addr: 0xc0a80001, Port: 5353}, To: api.End{Addr: 0x0a0109c7, Port: 53}, Body: "hello"}
}

// with is plain with one thing changed.
func with(change func(g *api.Gram)) api.Gram {
	g := plain()
	change(&g)
	return g
}

// some is n bytes.
func some(n int) string {
	return strings.Repeat("x", n)
}

// slowCheck asks for each thing by itself, in the chapter's order.
func slowCheck(g api.Gram) api.Errno {
	for _, port := range []int{g.From.Port, g.To.Port} {
		if port == 0 || port != port&0xffff {
			return api.ErrArg
		}
	}
	if len(g.Body) >= 1001 {
		return api.ErrLarge
	}
	return api.OK
}

// slowSum adds all words but that of the check sum, by remainders. What is
// summed is never zeros alone, for the protocol is among it: the remainder 0 is
// a Sum of 65535, whose Check is 0, which is written as 65535.
func slowSum(src, dst uint32, s string) uint16 {
	total := int(src>>16) + int(src&0xffff) + int(dst>>16) + int(dst&0xffff) + 17 + len(s)%65536
	for i := range len(s) {
		switch {
		case i == 6 || i == 7:
		case i%2 == 0:
			total += int(s[i]) * 256
		default:
			total += int(s[i])
		}
	}
	return uint16(65535 - total%65535)
}

// slowBytes writes g whether or not Check finds fault with it.
func slowBytes(g api.Gram) string {
	b := binary.BigEndian.AppendUint16(nil, uint16(g.From.Port))
	b = binary.BigEndian.AppendUint16(b, uint16(g.To.Port))
	b = binary.BigEndian.AppendUint16(b, uint16(8+len(g.Body)))
	b = append(b, 0, 0)
	b = append(b, g.Body...)
	return summed(g.From.Addr, g.To.Addr, string(b))
}

func slowWrite(g api.Gram) (string, api.Errno) {
	if e := slowCheck(g); e != api.OK {
		return "", e
	}
	return slowBytes(g), api.OK
}

// slowRead asks for each fault by itself, in the chapter's order.
func slowRead(src, dst uint32, s string) (api.Gram, api.Errno) {
	b := []byte(s)
	if len(b) < 8 {
		return api.Gram{}, api.ErrShort
	}
	told, check := int(binary.BigEndian.Uint16(b[4:])), binary.BigEndian.Uint16(b[6:])
	if len(b) < told {
		return api.Gram{}, api.ErrShort
	}
	if len(b) > told {
		return api.Gram{}, api.ErrForm
	}
	if check == 0 {
		return api.Gram{}, api.ErrForm
	}
	if check != slowSum(src, dst, s) {
		return api.Gram{}, api.ErrSum
	}
	from, to := int(binary.BigEndian.Uint16(b)), int(binary.BigEndian.Uint16(b[2:]))
	g := api.Gram{From: api.End{Addr: src, Port: from}, To: api.End{Addr: dst, Port: to}, Body: string(b[8:])}
	if e := slowCheck(g); e != api.OK {
		return api.Gram{}, e
	}
	return g, api.OK
}

// summed is s with the check sum that belongs there.
func summed(src, dst uint32, s string) string {
	return put(s, 6, string(binary.BigEndian.AppendUint16(nil, slowSum(src, dst, s))))
}

// put is s with other bytes from at on.
func put(s string, at int, other string) string {
	return s[:at] + other + s[at+len(other):]
}

// turned is s with some bits of a byte turned.
func turned(s string, at int, bits byte) string {
	return put(s, at, string([]byte{s[at] ^ bits}))
}

// checkAll holds Check, Write and Read of g against what is asked for.
func checkAll(t *testing.T, g api.Gram) {
	t.Helper()
	if e, want := Check(g), slowCheck(g); e != want {
		t.Errorf("Check(%.80v) is %d, not %d", g, e, want)
	}
	s, e := Write(g)
	if want, wantE := slowWrite(g); s != want || e != wantE {
		t.Errorf("Write(%.80v) is %.40q, %d, not %.40q, %d", g, s, e, want, wantE)
	}
	if e != api.OK {
		return
	}
	if back, e := Read(g.From.Addr, g.To.Addr, s); back != g || e != api.OK {
		t.Errorf("Read of Write(%.80v) is %.80v, %d", g, back, e)
	}
}

func checkRead(t *testing.T, src, dst uint32, s string) {
	t.Helper()
	got, e := Read(src, dst, s)
	if want, wantE := slowRead(src, dst, s); got != want || e != wantE {
		t.Errorf("Read(%#x, %#x, %.40q) is %.80v, %d, not %.80v, %d", src, dst, s, got, e, want, wantE)
	}
}

func TestCheckOfGivenGrams(t *testing.T) {
	from := func(n int) api.Gram { return with(func(g *api.Gram) { g.From.Port = n }) }
	to := func(n int) api.Gram { return with(func(g *api.Gram) { g.To.Port = n }) }
	body := func(n int) api.Gram { return with(func(g *api.Gram) { g.Body = some(n) }) }
	gram := func(from, to, n int) api.Gram {
		return api.Gram{From: api.End{Port: from}, To: api.End{Port: to}, Body: some(n)}
	}
	cases := []struct {
		name string
		g    api.Gram
		want api.Errno
	}{
		{"plain", plain(), api.OK},
		{"zeros", api.Gram{}, api.ErrArg},
		{"From 1", from(1), api.OK},
		{"From 65535", from(65535), api.OK},
		{"From 0", from(0), api.ErrArg},
		{"From 65536", from(65536), api.ErrArg},
		{"From 65537", from(65537), api.ErrArg},
		{"From -1", from(-1), api.ErrArg},
		{"From -65535", from(-65535), api.ErrArg},
		{"From 2^32 + 1", from(1<<32 + 1), api.ErrArg},
		{"From at the most of an int", from(math.MaxInt), api.ErrArg},
		{"From at the least of an int", from(math.MinInt), api.ErrArg},
		{"From at the least of an int, and 1", from(math.MinInt + 1), api.ErrArg},
		{"To 1", to(1), api.OK},
		{"To 65535", to(65535), api.OK},
		{"To 0", to(0), api.ErrArg},
		{"To 65536", to(65536), api.ErrArg},
		{"To 65537", to(65537), api.ErrArg},
		{"To -1", to(-1), api.ErrArg},
		{"To -65535", to(-65535), api.ErrArg},
		{"To 2^32 + 1", to(1<<32 + 1), api.ErrArg},
		{"To at the most of an int", to(math.MaxInt), api.ErrArg},
		{"To at the least of an int", to(math.MinInt), api.ErrArg},
		{"To at the least of an int, and 1", to(math.MinInt + 1), api.ErrArg},
		{"both 0", gram(0, 0, 0), api.ErrArg},
		{"both 65536", gram(65536, 65536, 0), api.ErrArg},
		{"an empty Body", body(0), api.OK},
		{"a Body of 1", body(1), api.OK},
		{"a Body of 999", body(999), api.OK},
		{"a Body of 1000", body(1000), api.OK},
		{"a Body of 1001", body(1001), api.ErrLarge},
		{"a Body of 2^16 - 8", body(1<<16 - 8), api.ErrLarge},
		{"a Body of 2^16", body(1 << 16), api.ErrLarge},
		{"a Body of 2^20", body(1 << 20), api.ErrLarge},
		{"From 0, a Body of 1001", gram(0, 1, 1001), api.ErrArg},
		{"From 65536, a Body of 1001", gram(65536, 1, 1001), api.ErrArg},
		{"To 0, a Body of 1001", gram(1, 0, 1001), api.ErrArg},
		{"To -1, a Body of 1001", gram(1, -1, 1001), api.ErrArg},
		{"all faults", gram(0, 65536, 1001), api.ErrArg},
		{"no Addrs, and Ports at their least", gram(1, 1, 0), api.OK},
		{"all at their most", api.Gram{From: api.End{Addr: math.MaxUint32, Port: 65535},
			To: api.End{Addr: math.MaxUint32, Port: 65535}, Body: some(1000)}, api.OK},
		{"the same End", with(func(g *api.Gram) { g.To = g.From }), api.OK},
	}
	for _, c := range cases {
		if e := Check(c.g); e != c.want {
			t.Errorf("%s: Check is %d, not %d", c.name, e, c.want)
		}
		s, e := Write(c.g)
		if e != c.want {
			t.Errorf("%s: Write is %d, not %d", c.name, e, c.want)
		}
		if e != api.OK && s != "" {
			t.Errorf("%s: Write tells %.40q beside an error", c.name, s)
		}
		checkAll(t, c.g)
	}
}

func TestWriteOfGivenGrams(t *testing.T) {
	gram := func(src uint32, from int, dst uint32, to int, body string) api.Gram {
		return api.Gram{From: api.End{Addr: src, Port: from}, To: api.End{Addr: dst, Port: to}, Body: body}
	}
	cases := []struct {
		name string
		g    api.Gram
		want string
	}{
		{"two bytes", gram(1, 7, 2, 9, "ab"), "\x00\x07\x00\x09\x00\x0a\x9e\x65ab"},
		{"empty", gram(0, 1, 0, 1, ""), "\x00\x01\x00\x01\x00\x08\xff\xdc"},
		{"a byte, which is the higher one of its word", gram(0, 1, 0, 1, "\x01"), "\x00\x01\x00\x01\x00\x09\xfe\xda\x01"},
		{"a byte 0, which is told all the same", gram(0, 1, 0, 1, "\x00"), "\x00\x01\x00\x01\x00\x09\xff\xda\x00"},
		{"three bytes", gram(0, 1, 0, 1, "\x01\x02\x03"), "\x00\x01\x00\x01\x00\x0b\xfb\xd4\x01\x02\x03"},
		{"each field by itself", gram(0x01020304, 0x090a, 0x05060708, 0x0b0c, "\x0d\x0e\x0f"),
			"\x09\x0a\x0b\x0c\x00\x0b\xbf\xa0\x0d\x0e\x0f"},
		{"Ports at their most", gram(0, 65535, 0, 65535, ""), "\xff\xff\xff\xff\x00\x08\xff\xde"},
		{"a check sum that comes out 0", gram(0, 1, 0, 65501, ""), "\x00\x01\xff\xdd\x00\x08\xff\xff"},
		{"one that comes out 1", gram(0, 1, 0, 65500, ""), "\x00\x01\xff\xdc\x00\x08\x00\x01"},
		{"one that comes out 65534", gram(0, 1, 0, 65502, ""), "\x00\x01\xff\xde\x00\x08\xff\xfe"},
	}
	for _, c := range cases {
		if got, e := Write(c.g); got != c.want || e != api.OK {
			t.Errorf("%s: Write is %q, %d, not %q", c.name, got, e, c.want)
		}
		if got, e := Read(c.g.From.Addr, c.g.To.Addr, c.want); got != c.g || e != api.OK {
			t.Errorf("%s: Read is %v, %d, not %v", c.name, got, e, c.g)
		}
		checkAll(t, c.g)
	}
}

// The promise's own words: sum.Check of ip.Pseudo and all bytes, with 0 at the
// check sum's place.
func TestWriteByTheWords(t *testing.T) {
	for _, n := range []int{0, 1, 2, 5, 8, 255, 256, 999, 1000} {
		g := with(func(g *api.Gram) { g.Body = some(n) })
		s, e := Write(g)
		if e != api.OK || len(s) != 8+n {
			t.Fatalf("Write with a Body of %d is %d bytes, %d", n, len(s), e)
		}
		want := sum.Check(ip.Pseudo(g.From.Addr, g.To.Addr, api.ProtoUdp, 8+n) + put(s, 6, "\x00\x00"))
		if got := binary.BigEndian.Uint16([]byte(s[6:])); got != want {
			t.Errorf("with a Body of %d the check sum is %#04x, not %#04x", n, got, want)
		}
		if s[8:] != g.Body {
			t.Errorf("the body is %.40q, not %.40q", s[8:], g.Body)
		}
	}
}

func TestEveryLength(t *testing.T) {
	l := lot(3)
	for n := range 1005 {
		checkAll(t, with(func(g *api.Gram) { g.Body = some(n) }))
		checkAll(t, with(func(g *api.Gram) { g.Body = strings.Repeat("\xff", n) }))
		checkAll(t, with(func(g *api.Gram) { g.Body = strings.Repeat("\x00", n) }))
		checkAll(t, with(func(g *api.Gram) { g.Body = l.text(n) }))
	}
}

// Every Port: the check sum goes through all of its values, the one that comes
// out 0 among them.
func TestEveryPort(t *testing.T) {
	full := 0
	for port := -2; port < 65540; port++ {
		checkAll(t, with(func(g *api.Gram) { g.From.Port = port }))
		g := with(func(g *api.Gram) { g.To.Port = port })
		checkAll(t, g)
		s, e := Write(g)
		if e == api.OK && s[6:8] == "\x00\x00" {
			t.Errorf("a Port of %d is written with a check sum of 0", port)
		}
		if e == api.OK && s[6:8] == "\xff\xff" {
			full++
		}
	}
	if full == 0 {
		t.Error("no check sum came out 0")
	}
}

func TestDrawnGrams(t *testing.T) {
	l := lot(7)
	ends := []uint32{0, 1, 0xffff, 0x10000, 0xffff0000, math.MaxUint32}
	addr := func() uint32 {
		if l.draw(4) == 0 {
			return ends[l.draw(len(ends))]
		}
		return uint32(l.draw(1 << 32))
	}
	for range 20000 {
		checkAll(t, api.Gram{
			From: api.End{Addr: addr(), Port: 1 + l.draw(65535)},
			To:   api.End{Addr: addr(), Port: 1 + l.draw(65535)},
			Body: l.text(l.draw(40)),
		})
	}
}

// zeroSum is a datagram whose check sum comes out 0.
func zeroSum() api.Gram {
	return api.Gram{From: api.End{Port: 1}, To: api.End{Port: 65501}}
}

// What comes out 0 is 65535 on its way, and 0 there is no check sum at all.
func TestSumOfZero(t *testing.T) {
	g := zeroSum()
	s, e := Write(g)
	if e != api.OK || s[6:8] != "\xff\xff" {
		t.Fatalf("Write is %q, %d", s, e)
	}
	if c := sum.Check(ip.Pseudo(0, 0, api.ProtoUdp, 8) + put(s, 6, "\x00\x00")); c != 0 {
		t.Fatalf("the check sum comes out %#04x", c)
	}
	if back, e := Read(0, 0, s); back != g || e != api.OK {
		t.Errorf("Read is %v, %d", back, e)
	}
	if back, e := Read(0, 0, put(s, 6, "\x00\x00")); back != (api.Gram{}) || e != api.ErrForm {
		t.Errorf("Read with a check sum of 0 is %v, %d", back, e)
	}
}

func TestReadOfGivenFaults(t *testing.T) {
	src, dst := plain().From.Addr, plain().To.Addr
	s, _ := Write(plain())
	empty, _ := Write(with(func(g *api.Gram) { g.Body = "" }))
	long := slowBytes(with(func(g *api.Gram) { g.Body = some(1001) }))
	most := slowBytes(with(func(g *api.Gram) { g.Body = some(65527) }))
	well := func(at int, other string) string { return summed(src, dst, put(s, at, other)) }
	wrong := turned(s, 7, 1)
	none := put(s, 6, "\x00\x00")
	cases := []struct {
		name string
		s    string
		want api.Errno
	}{
		{"as it is written", s, api.OK},
		{"eight bytes, as they are written", empty, api.OK},
		{"nothing", "", api.ErrShort},
		{"a byte", s[:1], api.ErrShort},
		{"7 bytes", s[:7], api.ErrShort},
		{"7 bytes of an empty one", empty[:7], api.ErrShort},
		{"7 bytes, and 7 are told", put(s, 4, "\x00\x07")[:7], api.ErrShort},
		{"7 bytes, and none are told", put(s, 4, "\x00\x00")[:7], api.ErrShort},
		{"8 bytes of 13", s[:8], api.ErrShort},
		{"a byte fewer than told", s[:12], api.ErrShort},
		{"a byte more than told", s + "!", api.ErrForm},
		{"a byte 0 more than told", s + "\x00", api.ErrForm},
		{"14 are told", well(4, "\x00\x0e"), api.ErrShort},
		{"12 are told", well(4, "\x00\x0c"), api.ErrForm},
		{"8 are told", well(4, "\x00\x08"), api.ErrForm},
		{"7 are told", well(4, "\x00\x07"), api.ErrForm},
		{"none are told", well(4, "\x00\x00"), api.ErrForm},
		{"65535 are told", well(4, "\xff\xff"), api.ErrShort},
		{"8 bytes, 7 are told", summed(src, dst, put(empty, 4, "\x00\x07")), api.ErrForm},
		{"8 bytes, none are told", summed(src, dst, put(empty, 4, "\x00\x00")), api.ErrForm},
		{"8 bytes, 9 are told", summed(src, dst, put(empty, 4, "\x00\x09")), api.ErrShort},
		{"the length turned round", well(4, "\x0d\x00"), api.ErrShort},
		{"2^16 more than told", s + some(1<<16), api.ErrForm},
		{"far more than told", s + some(1<<20), api.ErrForm},
		{"a check sum of 0", none, api.ErrForm},
		{"8 bytes, and a check sum of 0", put(empty, 6, "\x00\x00"), api.ErrForm},
		{"eight bytes of 0", strings.Repeat("\x00", 8), api.ErrForm},
		{"wrong by the lowest bit", wrong, api.ErrSum},
		{"wrong by the highest bit", turned(s, 6, 128), api.ErrSum},
		{"the sum with its bits turned", turned(turned(s, 6, 255), 7, 255), api.ErrSum},
		{"the sum turned round", put(s, 6, string([]byte{s[7], s[6]})), api.ErrSum},
		{"a sum of 65535", put(s, 6, "\xff\xff"), api.ErrSum},
		{"another body", put(s, 8, "world"), api.ErrSum},
		{"two words of the body exchanged", put(s, 8, "llheo"), api.OK},
		{"another From", put(s, 0, "\x14\xea"), api.ErrSum},
		{"another To", put(s, 2, "\x00\x36"), api.ErrSum},
		{"another From, well summed", well(0, "\x14\xea"), api.OK},
		{"From 0, well summed", well(0, "\x00\x00"), api.ErrArg},
		{"To 0, well summed", well(2, "\x00\x00"), api.ErrArg},
		{"both 0, well summed", well(0, "\x00\x00\x00\x00"), api.ErrArg},
		{"From 65535, well summed", well(0, "\xff\xff"), api.OK},
		{"To 1, well summed", well(2, "\x00\x01"), api.OK},
		{"a Body of 1001, well summed", long, api.ErrLarge},
		{"the most that can be told, well summed", most, api.ErrLarge},
		{"one more than the most that can be told", most + "x", api.ErrForm},
		{"a Body of 1001, without its last byte", long[:1008], api.ErrShort},

		{"fewer than told, and a check sum of 0", none[:12], api.ErrShort},
		{"fewer than told, and a wrong sum", wrong[:12], api.ErrShort},
		{"fewer than told, and From 0", put(s, 0, "\x00\x00")[:12], api.ErrShort},
		{"more than told, and a wrong sum", wrong + "!", api.ErrForm},
		{"more than told, and To 0", put(s, 2, "\x00\x00") + "!", api.ErrForm},
		{"more than told, and a Body of 1002", long + "x", api.ErrForm},
		{"a check sum of 0, and From 0", put(none, 0, "\x00\x00"), api.ErrForm},
		{"a check sum of 0, and a Body of 1001", put(long, 6, "\x00\x00"), api.ErrForm},
		{"a wrong sum, and From 0", turned(well(0, "\x00\x00"), 7, 1), api.ErrSum},
		{"a wrong sum, and a Body of 1001", turned(long, 7, 1), api.ErrSum},
		{"To 0, and a Body of 1001, well summed", summed(src, dst, put(long, 2, "\x00\x00")), api.ErrArg},
		{"From 0, and a Body of 1001, well summed", summed(src, dst, put(long, 0, "\x00\x00")), api.ErrArg},
	}
	for _, c := range cases {
		g, e := Read(src, dst, c.s)
		if e != c.want {
			t.Errorf("%s: Read is %d, not %d", c.name, e, c.want)
		}
		if e != api.OK && g != (api.Gram{}) {
			t.Errorf("%s: Read tells %.80v beside an error", c.name, g)
		}
		checkRead(t, src, dst, c.s)
	}
}

// The addresses are not among the bytes, but they are summed with them.
func TestReadWithOtherAddrs(t *testing.T) {
	g := plain()
	src, dst := g.From.Addr, g.To.Addr
	s, _ := Write(g)
	for bit := range 32 {
		for _, pair := range [][2]uint32{{src ^ 1<<bit, dst}, {src, dst ^ 1<<bit}} {
			if got, e := Read(pair[0], pair[1], s); got != (api.Gram{}) || e != api.ErrSum {
				t.Errorf("Read(%#x, %#x) is %v, %d", pair[0], pair[1], got, e)
			}
		}
	}
	for _, pair := range [][2]uint32{{0, 0}, {0, dst}, {src, 0}, {src, src}, {dst, dst}, {src + 1, dst + 1}} {
		if got, e := Read(pair[0], pair[1], s); got != (api.Gram{}) || e != api.ErrSum {
			t.Errorf("Read(%#x, %#x) is %v, %d", pair[0], pair[1], got, e)
		}
	}
}

// A sum doesn't tell in which order its words stand: the addresses exchanged
// have the same one, and are told as they are handed in.
func TestReadWithExchangedAddrs(t *testing.T) {
	g := plain()
	s, _ := Write(g)
	want := g
	want.From.Addr, want.To.Addr = g.To.Addr, g.From.Addr
	if got, e := Read(g.To.Addr, g.From.Addr, s); got != want || e != api.OK {
		t.Errorf("Read is %v, %d, not %v", got, e, want)
	}
}

// What is damaged at one byte is never taken for another datagram.
func TestReadOfOneDamagedByte(t *testing.T) {
	odd, even := plain(), with(func(g *api.Gram) { g.Body = "ab" })
	for _, g := range []api.Gram{odd, even, zeroSum(), {From: api.End{Addr: 1, Port: 65535}, To: api.End{Port: 65535}}} {
		src, dst := g.From.Addr, g.To.Addr
		s, _ := Write(g)
		for at := range s {
			for bits := 1; bits < 256; bits++ {
				other := turned(s, at, byte(bits))
				checkRead(t, src, dst, other)
				if got, e := Read(src, dst, other); e == api.OK {
					t.Errorf("Read(%q) is %v", other, got)
				}
				checkRead(t, src, dst, summed(src, dst, other))
			}
		}
		for n := range s {
			checkRead(t, src, dst, s[:n])
			checkRead(t, src, dst, s+s[:n])
		}
	}
}

// Every check sum at the place of the right one: it alone is taken.
func TestReadOfEveryCheckSum(t *testing.T) {
	for _, g := range []api.Gram{plain(), zeroSum()} {
		s, _ := Write(g)
		for n := range 65536 {
			other := put(s, 6, string([]byte{byte(n >> 8), byte(n)}))
			want := api.ErrSum
			switch {
			case other == s:
				want = api.OK
			case n == 0:
				want = api.ErrForm
			}
			if _, e := Read(g.From.Addr, g.To.Addr, other); e != want {
				t.Fatalf("Read with a check sum of %#04x is %d, not %d", n, e, want)
			}
		}
	}
}

// Some bytes are drawn anew, and half of the texts are told their size and
// summed again: all faults come, also several at once.
func TestReadOfDrawnTexts(t *testing.T) {
	l := lot(11)
	src, dst := plain().From.Addr, plain().To.Addr
	s, _ := Write(plain())
	seen := map[api.Errno]int{}
	for range 100000 {
		text := s[:6+l.draw(8)]
		for range l.draw(3) {
			text = put(text, l.draw(6), string([]byte{byte(l.draw(3))}))
		}
		if l.draw(8) == 0 {
			text += l.text(l.draw(1100))
		}
		if l.draw(16) == 0 {
			text = "\x00\x00" + text[2:]
		}
		if len(text) >= 8 && l.draw(2) == 0 {
			text = summed(src, dst, put(text, 4, string([]byte{byte(len(text) >> 8), byte(len(text))})))
		}
		checkRead(t, src, dst, text)
		_, e := Read(src, dst, text)
		seen[e]++
	}
	for _, e := range []api.Errno{api.OK, api.ErrArg, api.ErrLarge, api.ErrShort, api.ErrForm, api.ErrSum} {
		if seen[e] == 0 {
			t.Errorf("no text was answered by %d", e)
		}
	}
}

// What Read takes, Write makes anew to the byte.
func TestReadAndWriteAnew(t *testing.T) {
	l := lot(13)
	for range 20000 {
		n := l.draw(30)
		src, dst := uint32(l.draw(1<<32)), uint32(l.draw(1<<32))
		ports := string([]byte{byte(1 + l.draw(255)), byte(l.draw(256)), byte(1 + l.draw(255)), byte(l.draw(256))})
		s := summed(src, dst, ports+string([]byte{0, byte(8 + n), 0, 0})+l.text(n))
		g, e := Read(src, dst, s)
		if e != api.OK {
			t.Fatalf("Read(%#x, %#x, %q) is %d", src, dst, s, e)
		}
		if back, e := Write(g); back != s || e != api.OK {
			t.Fatalf("Write of Read(%q) is %q, %d", s, back, e)
		}
	}
}

// share tells whether two texts lie in the same memory, in part at least.
func share(a, b string) bool {
	if a == "" || b == "" {
		return false
	}
	from, to := uintptr(unsafe.Pointer(unsafe.StringData(a))), uintptr(unsafe.Pointer(unsafe.StringData(b)))
	return from < to+uintptr(len(b)) && to < from+uintptr(len(a))
}

func TestAnswersAreNewMemory(t *testing.T) {
	for _, n := range []int{0, 1, 5, 1000} {
		g := with(func(g *api.Gram) { g.Body = some(n) })
		s, _ := Write(g)
		if share(s, g.Body) {
			t.Errorf("Write shares a Body of %d bytes", n)
		}
		if again, _ := Write(g); share(s, again) {
			t.Errorf("two Writes share a Body of %d bytes", n)
		}
		back, _ := Read(g.From.Addr, g.To.Addr, s)
		if share(s, back.Body) {
			t.Errorf("Read shares a Body of %d bytes", n)
		}
		if again, _ := Read(g.From.Addr, g.To.Addr, s); share(back.Body, again.Body) {
			t.Errorf("two Reads share a Body of %d bytes", n)
		}
	}
}

// What came between does not show in what is answered.
func TestNothingIsKept(t *testing.T) {
	g := plain()
	first, _ := Write(g)
	for range 3 {
		Write(api.Gram{From: api.End{Addr: 1, Port: 65535}, To: api.End{Addr: 2, Port: 65535}, Body: some(1000)})
		Write(api.Gram{})
		Read(g.From.Addr, g.To.Addr, first[:12])
		Read(1, 2, first)
		Check(zeroSum())
		if again, e := Write(g); again != first || e != api.OK {
			t.Errorf("Write is %q, %d, and was %q", again, e, first)
		}
		if back, e := Read(g.From.Addr, g.To.Addr, first); back != g || e != api.OK {
			t.Errorf("Read is %v, %d", back, e)
		}
	}
}
