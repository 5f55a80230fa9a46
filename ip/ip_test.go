package ip

import (
	"encoding/binary"
	"math"
	"strings"
	"testing"
	"unsafe"

	"packetboat/api"
	"packetboat/sum"
)

// lot draws the same numbers at each run.
type lot uint64

func (l *lot) draw(n int) int {
	*l ^= *l << 13
	*l ^= *l >> 7
	*l ^= *l << 17
	return int(uint64(*l) % uint64(n))
}

func (l *lot) text(n int) string {
	b := make([]byte, n)
	for i := range b {
		b[i] = byte(l.draw(256))
	}
	return string(b)
}

// plain is a packet that Check finds no fault with.
func plain() api.Packet {
	return api.Packet{Src: 0xc0a80001, Dst: 0xc0a800c7, Proto: 17, Ttl: 64, Id: 0x1234, Off: 0x567, Body: "hello"}
}

// with is plain with one thing changed.
func with(change func(p *api.Packet)) api.Packet {
	p := plain()
	change(&p)
	return p
}

// some is n bytes.
func some(n int) string {
	return strings.Repeat("x", n)
}

// slowCheck asks for each thing by itself, in the chapter's order.
func slowCheck(p api.Packet) api.Errno {
	if p.Proto != p.Proto&0xff || p.Ttl != p.Ttl&0xff || p.Id != p.Id&0xffff || p.Off != p.Off&0x1fff {
		return api.ErrArg
	}
	if len(p.Body) >= 1401 {
		return api.ErrLarge
	}
	return api.OK
}

// slowSum adds all words but that of the check sum, by remainders: 0xffff
// stands for 0 wherever the head isn't zeros alone, and it never is.
func slowSum(b []byte) uint16 {
	total := 0
	for i := 0; i < 20; i += 2 {
		if i != 10 {
			total += int(b[i])*256 + int(b[i+1])
		}
	}
	total %= 65535
	if total == 0 {
		total = 65535
	}
	return uint16(65535 - total)
}

// slowHead writes a head whether or not Check finds fault with p.
func slowHead(p api.Packet) []byte {
	off := uint16(p.Off)
	if p.Dont {
		off += 16384
	}
	if p.More {
		off += 8192
	}
	b := []byte{69, 0}
	b = binary.BigEndian.AppendUint16(b, uint16(20+len(p.Body)))
	b = binary.BigEndian.AppendUint16(b, uint16(p.Id))
	b = binary.BigEndian.AppendUint16(b, off)
	b = append(b, byte(p.Ttl), byte(p.Proto), 0, 0)
	b = binary.BigEndian.AppendUint32(b, p.Src)
	b = binary.BigEndian.AppendUint32(b, p.Dst)
	binary.BigEndian.PutUint16(b[10:], slowSum(b))
	return b
}

func slowWrite(p api.Packet) (string, api.Errno) {
	if e := slowCheck(p); e != api.OK {
		return "", e
	}
	return string(append(slowHead(p), p.Body...)), api.OK
}

// slowRead asks for each fault by itself, in the chapter's order.
func slowRead(s string) (api.Packet, api.Errno) {
	b := []byte(s)
	if len(b) < 20 {
		return api.Packet{}, api.ErrShort
	}
	if b[0] != 69 {
		return api.Packet{}, api.ErrProto
	}
	if b[1] != 0 {
		return api.Packet{}, api.ErrForm
	}
	if b[6] >= 128 {
		return api.Packet{}, api.ErrForm
	}
	if told := int(binary.BigEndian.Uint16(b[2:])); len(b) < told {
		return api.Packet{}, api.ErrShort
	} else if len(b) > told {
		return api.Packet{}, api.ErrForm
	}
	if binary.BigEndian.Uint16(b[10:]) != slowSum(b) {
		return api.Packet{}, api.ErrSum
	}
	if len(b) > 1420 {
		return api.Packet{}, api.ErrLarge
	}
	return api.Packet{
		Src:   binary.BigEndian.Uint32(b[12:]),
		Dst:   binary.BigEndian.Uint32(b[16:]),
		Proto: int(b[9]),
		Ttl:   int(b[8]),
		Id:    int(binary.BigEndian.Uint16(b[4:])),
		Dont:  b[6]/64%2 == 1,
		More:  b[6]/32%2 == 1,
		Off:   int(binary.BigEndian.Uint16(b[6:])) % 8192,
		Body:  string(b[20:]),
	}, api.OK
}

// checkAll holds Check, Write and Read of p against what is asked for.
func checkAll(t *testing.T, p api.Packet) {
	t.Helper()
	if e, want := Check(p), slowCheck(p); e != want {
		t.Errorf("Check(%.80v) is %d, not %d", p, e, want)
	}
	s, e := Write(p)
	if want, wantE := slowWrite(p); s != want || e != wantE {
		t.Errorf("Write(%.80v) is %.40q, %d, not %.40q, %d", p, s, e, want, wantE)
	}
	if e != api.OK {
		return
	}
	if back, e := Read(s); back != p || e != api.OK {
		t.Errorf("Read of Write(%.80v) is %.80v, %d", p, back, e)
	}
}

func checkRead(t *testing.T, s string) {
	t.Helper()
	got, e := Read(s)
	if want, wantE := slowRead(s); got != want || e != wantE {
		t.Errorf("Read(%.40q) is %.80v, %d, not %.80v, %d", s, got, e, want, wantE)
	}
}

func TestCheckOfGivenPackets(t *testing.T) {
	cases := []struct {
		name string
		p    api.Packet
		want api.Errno
	}{
		{"zeros", api.Packet{}, api.OK},
		{"plain", plain(), api.OK},
		{"Proto 0", with(func(p *api.Packet) { p.Proto = 0 }), api.OK},
		{"Proto 255", with(func(p *api.Packet) { p.Proto = 255 }), api.OK},
		{"Proto 256", with(func(p *api.Packet) { p.Proto = 256 }), api.ErrArg},
		{"Proto -1", with(func(p *api.Packet) { p.Proto = -1 }), api.ErrArg},
		{"Ttl 0", with(func(p *api.Packet) { p.Ttl = 0 }), api.OK},
		{"Ttl 255", with(func(p *api.Packet) { p.Ttl = 255 }), api.OK},
		{"Ttl 256", with(func(p *api.Packet) { p.Ttl = 256 }), api.ErrArg},
		{"Ttl -1", with(func(p *api.Packet) { p.Ttl = -1 }), api.ErrArg},
		{"Id 0", with(func(p *api.Packet) { p.Id = 0 }), api.OK},
		{"Id 65535", with(func(p *api.Packet) { p.Id = 65535 }), api.OK},
		{"Id 65536", with(func(p *api.Packet) { p.Id = 65536 }), api.ErrArg},
		{"Id -1", with(func(p *api.Packet) { p.Id = -1 }), api.ErrArg},
		{"Off 0", with(func(p *api.Packet) { p.Off = 0 }), api.OK},
		{"Off 8191", with(func(p *api.Packet) { p.Off = 8191 }), api.OK},
		{"Off 8192", with(func(p *api.Packet) { p.Off = 8192 }), api.ErrArg},
		{"Off -1", with(func(p *api.Packet) { p.Off = -1 }), api.ErrArg},
		{"an empty Body", with(func(p *api.Packet) { p.Body = "" }), api.OK},
		{"a Body of 1400", with(func(p *api.Packet) { p.Body = some(1400) }), api.OK},
		{"a Body of 1401", with(func(p *api.Packet) { p.Body = some(1401) }), api.ErrLarge},
		{"a Body of 2^16 - 20", with(func(p *api.Packet) { p.Body = some(1<<16 - 20) }), api.ErrLarge},
		{"a Body of 2^20", with(func(p *api.Packet) { p.Body = some(1 << 20) }), api.ErrLarge},
		{"Proto 256, a Body of 1401", api.Packet{Proto: 256, Body: some(1401)}, api.ErrArg},
		{"Ttl -1, a Body of 1401", api.Packet{Ttl: -1, Body: some(1401)}, api.ErrArg},
		{"Id 65536, a Body of 1401", api.Packet{Id: 65536, Body: some(1401)}, api.ErrArg},
		{"Off 8192, a Body of 1401", api.Packet{Off: 8192, Body: some(1401)}, api.ErrArg},
		{"all at their most", api.Packet{Src: math.MaxUint32, Dst: math.MaxUint32, Proto: 255, Ttl: 255, Id: 65535,
			Dont: true, More: true, Off: 8191, Body: some(1400)}, api.OK},
	}
	for _, c := range cases {
		if e := Check(c.p); e != c.want {
			t.Errorf("%s: Check is %d, not %d", c.name, e, c.want)
		}
		s, e := Write(c.p)
		if e != c.want {
			t.Errorf("%s: Write is %d, not %d", c.name, e, c.want)
		}
		if e != api.OK && s != "" {
			t.Errorf("%s: Write tells %.40q beside an error", c.name, s)
		}
	}
}

func TestWriteOfGivenPackets(t *testing.T) {
	cases := []struct {
		name string
		p    api.Packet
		want string
	}{
		{"the head of example 1, which tells 115 bytes",
			api.Packet{Src: 0xc0a80001, Dst: 0xc0a800c7, Proto: 17, Ttl: 64, Dont: true, Body: some(95)},
			"\x45\x00\x00\x73\x00\x00\x40\x00\x40\x11\xb8\x61\xc0\xa8\x00\x01\xc0\xa8\x00\xc7" + some(95)},
		{"zeros", api.Packet{},
			"\x45\x00\x00\x14\x00\x00\x00\x00\x00\x00\xba\xeb\x00\x00\x00\x00\x00\x00\x00\x00"},
		{"Dont alone", api.Packet{Dont: true},
			"\x45\x00\x00\x14\x00\x00\x40\x00\x00\x00\x7a\xeb\x00\x00\x00\x00\x00\x00\x00\x00"},
		{"More alone", api.Packet{More: true},
			"\x45\x00\x00\x14\x00\x00\x20\x00\x00\x00\x9a\xeb\x00\x00\x00\x00\x00\x00\x00\x00"},
		{"both, and the most of Off", api.Packet{Dont: true, More: true, Off: 8191},
			"\x45\x00\x00\x14\x00\x00\x7f\xff\x00\x00\x3a\xec\x00\x00\x00\x00\x00\x00\x00\x00"},
		{"each field by itself", api.Packet{Src: 0x01020304, Dst: 0x05060708, Proto: 9, Ttl: 10, Id: 0x0b0c,
			Off: 0x0d0e, Body: "\x00\xff"},
			"\x45\x00\x00\x16\x0b\x0c\x0d\x0e\x0a\x09\x88\xb2\x01\x02\x03\x04\x05\x06\x07\x08\x00\xff"},
	}
	for _, c := range cases {
		if got, e := Write(c.p); got != c.want || e != api.OK {
			t.Errorf("%s: Write is %q, %d, not %q", c.name, got, e, c.want)
		}
		if got, e := Read(c.want); got != c.p || e != api.OK {
			t.Errorf("%s: Read is %v, %d, not %v", c.name, got, e, c.p)
		}
	}
}

// The promise's own words: the check sum is that of the head with 0 there.
func TestWriteSumsTheHeadAlone(t *testing.T) {
	for _, body := range []string{"", "a", "hello", some(1400)} {
		p := with(func(p *api.Packet) { p.Body = body })
		s, _ := Write(p)
		if want := sum.Check(s[:10] + "\x00\x00" + s[12:20]); binary.BigEndian.Uint16([]byte(s[10:])) != want {
			t.Errorf("with a Body of %d the sum is %x, not %x", len(body), s[10:12], want)
		}
		if s[20:] != body {
			t.Errorf("the body is %.40q, not %.40q", s[20:], body)
		}
	}
}

// numbers lie around each bound that a field has.
func numbers() []int {
	return []int{math.MinInt, math.MinInt + 1, -1 << 32, -1<<32 + 64, -65536, -65535, -8192, -256, -255, -2, -1, 0, 1,
		2, 127, 128, 254, 255, 256, 257, 511, 512, 4095, 4096, 8190, 8191, 8192, 8193, 16383, 16384, 16385, 32767,
		32768, 65534, 65535, 65536, 65537, 1 << 24, 1 << 32, 1<<32 + 64, math.MaxInt - 1, math.MaxInt}
}

func TestEachFieldByItself(t *testing.T) {
	for _, n := range numbers() {
		checkAll(t, with(func(p *api.Packet) { p.Proto = n }))
		checkAll(t, with(func(p *api.Packet) { p.Ttl = n }))
		checkAll(t, with(func(p *api.Packet) { p.Id = n }))
		checkAll(t, with(func(p *api.Packet) { p.Src = uint32(n) }))
		checkAll(t, with(func(p *api.Packet) { p.Dst = uint32(n) }))
		for bits := range 4 {
			checkAll(t, with(func(p *api.Packet) { p.Off, p.Dont, p.More = n, bits&1 != 0, bits&2 != 0 }))
		}
	}
	for place := range 32 {
		checkAll(t, with(func(p *api.Packet) { p.Src = 1 << place }))
		checkAll(t, with(func(p *api.Packet) { p.Dst = 1 << place }))
	}
}

func TestEverySizeOfBody(t *testing.T) {
	l := lot(5)
	for n := range 1500 {
		checkAll(t, with(func(p *api.Packet) { p.Body = l.text(n) }))
	}
}

func TestDrawnPackets(t *testing.T) {
	l := lot(7)
	for range 20000 {
		p := api.Packet{Src: uint32(l.draw(1 << 32)), Dst: uint32(l.draw(1 << 32)), Proto: l.draw(256),
			Ttl: l.draw(256), Id: l.draw(65536), Dont: l.draw(2) == 1, More: l.draw(2) == 1, Off: l.draw(8192),
			Body: l.text(l.draw(40))}
		checkAll(t, p)
	}
}

// Every Id: the check sum goes through all of its values, 0 among them.
func TestEveryId(t *testing.T) {
	for id := range 65536 {
		checkAll(t, with(func(p *api.Packet) { p.Id = id }))
	}
}

// zeroSum is a packet whose check sum is 0.
func zeroSum() api.Packet {
	p := plain()
	for id := range 65536 {
		p.Id = id
		if s := string(slowHead(p)); s[10:12] == "\x00\x00" {
			break
		}
	}
	return p
}

// A head that sums up to 0xffff has 0 as its check sum, and 0xffff, which the
// sum over all of it would take as well, is another one.
func TestSumOfZero(t *testing.T) {
	s, e := Write(zeroSum())
	if e != api.OK || s[10:12] != "\x00\x00" {
		t.Fatalf("Write is %q, %d", s, e)
	}
	if p, e := Read(s); p != zeroSum() || e != api.OK {
		t.Errorf("Read is %v, %d", p, e)
	}
	other := s[:10] + "\xff\xff" + s[12:]
	if p, e := Read(other); p != (api.Packet{}) || e != api.ErrSum {
		t.Errorf("Read with 0xffff is %v, %d", p, e)
	}
}

// summed is s with the check sum that belongs there.
func summed(s string) string {
	b := []byte(s)
	binary.BigEndian.PutUint16(b[10:], slowSum(b))
	return string(b)
}

// put is s with other bytes from at on.
func put(s string, at int, other string) string {
	return s[:at] + other + s[at+len(other):]
}

func TestReadOfGivenFaults(t *testing.T) {
	s, _ := Write(plain())
	long := string(slowHead(with(func(p *api.Packet) { p.Body = some(1401) }))) + some(1401)
	most := string(slowHead(with(func(p *api.Packet) { p.Body = some(65515) }))) + some(65515)
	wrong := put(s, 10, string([]byte{s[10] ^ 1}))
	cases := []struct {
		name string
		s    string
		want api.Errno
	}{
		{"as it is written", s, api.OK},
		{"nothing", "", api.ErrShort},
		{"a byte", s[:1], api.ErrShort},
		{"19 bytes", s[:19], api.ErrShort},
		{"19 bytes, the first isn't 69", "\x46" + s[1:19], api.ErrShort},
		{"19 bytes, and 19 are told", put(s, 2, "\x00\x13")[:19], api.ErrShort},
		{"the head alone", s[:20], api.ErrShort},
		{"the first is 68", summed(put(s, 0, "\x44")), api.ErrProto},
		{"the first is 70", summed(put(s, 0, "\x46")), api.ErrProto},
		{"the first is 0x65", summed(put(s, 0, "\x65")), api.ErrProto},
		{"the first is 0", summed(put(s, 0, "\x00")), api.ErrProto},
		{"the second is 1", summed(put(s, 1, "\x01")), api.ErrForm},
		{"the second is 255", summed(put(s, 1, "\xff")), api.ErrForm},
		{"the highest bit beside Off", summed(put(s, 6, string([]byte{s[6] | 128}))), api.ErrForm},
		{"all bits beside Off", summed(put(s, 6, "\xff\xff")), api.ErrForm},
		{"a byte fewer than told", s[:24], api.ErrShort},
		{"a byte more than told", s + "!", api.ErrForm},
		{"26 are told", summed(put(s, 2, "\x00\x1a")), api.ErrShort},
		{"24 are told", summed(put(s, 2, "\x00\x18")), api.ErrForm},
		{"19 are told", summed(put(s[:20], 2, "\x00\x13")), api.ErrForm},
		{"none are told", summed(put(s[:20], 2, "\x00\x00")), api.ErrForm},
		{"65535 are told", summed(put(s, 2, "\xff\xff")), api.ErrShort},
		{"2^16 more than told", s + some(1<<16), api.ErrForm},
		{"far more than told", s + some(1<<20), api.ErrForm},
		{"a wrong sum", wrong, api.ErrSum},
		{"the sum with its bits turned", put(s, 10, string([]byte{^s[10], ^s[11]})), api.ErrSum},
		{"the sum turned round", put(s, 10, string([]byte{s[11], s[10]})), api.ErrSum},
		{"another body", put(s, 20, "world"), api.OK},
		{"a Body of 1401, well summed", long, api.ErrLarge},
		{"a Body of 1401, without its last byte", long[:1420], api.ErrShort},
		{"the most that can be told", most, api.ErrLarge},
		{"one more than the most that can be told", most + "x", api.ErrForm},

		{"the first and the second", put(wrong, 0, "\x44\x01") + "!", api.ErrProto},
		{"the first, and fewer than told", put(s, 0, "\x44")[:24], api.ErrProto},
		{"the first, and the highest bit", put(put(wrong, 6, "\x80"), 0, "\x44"), api.ErrProto},
		{"the second, and fewer than told", put(wrong, 1, "\x01")[:24], api.ErrForm},
		{"the highest bit, and fewer than told", put(wrong, 6, "\x80")[:24], api.ErrForm},
		{"the highest bit, and a wrong sum", put(wrong, 6, "\x80"), api.ErrForm},
		{"the second, and a wrong sum", put(wrong, 1, "\x01"), api.ErrForm},
		{"fewer than told, and a wrong sum", wrong[:24], api.ErrShort},
		{"more than told, and a wrong sum", wrong + "!", api.ErrForm},
		{"a wrong sum, and a Body of 1401", put(long, 10, string([]byte{long[10] ^ 1})), api.ErrSum},
		{"the first, and a Body of 1401", put(long, 0, "\x44"), api.ErrProto},
		{"the second, and a Body of 1401", put(long, 1, "\x01"), api.ErrForm},
		{"more than told, and a Body of 1402", long + "x", api.ErrForm},
	}
	for _, c := range cases {
		p, e := Read(c.s)
		if e != c.want {
			t.Errorf("%s: Read is %d, not %d", c.name, e, c.want)
		}
		if e != api.OK && p != (api.Packet{}) {
			t.Errorf("%s: Read tells %.80v beside an error", c.name, p)
		}
		checkRead(t, c.s)
	}
}

// What is damaged at one byte of the head is never taken for another packet.
func TestReadOfOneDamagedByte(t *testing.T) {
	for _, p := range []api.Packet{plain(), {}, zeroSum(), {Dont: true, Ttl: 1}, {More: true, Off: 8191, Id: 65535}} {
		s, _ := Write(p)
		for at := range s {
			for b := range 256 {
				other := put(s, at, string([]byte{byte(b)}))
				checkRead(t, other)
				if got, e := Read(other); at < 20 && other != s && e == api.OK {
					t.Errorf("Read(%q) is %v", other, got)
				}
				checkRead(t, summed(other))
			}
		}
		for n := range s {
			checkRead(t, s[:n])
			checkRead(t, s+s[:n])
		}
	}
}

// Two bytes are drawn anew, and half of the texts are summed again and told
// their size: all faults come, also several at once.
func TestReadOfDrawnTexts(t *testing.T) {
	l := lot(11)
	s, _ := Write(plain())
	seen := map[api.Errno]int{}
	for range 100000 {
		text := s[:18+l.draw(8)]
		for range l.draw(3) {
			text = put(text, l.draw(18), l.text(1))
		}
		if l.draw(8) == 0 {
			text += l.text(l.draw(1500))
		}
		if len(text) >= 20 && l.draw(2) == 0 {
			text = summed(put(text, 2, string([]byte{byte(len(text) >> 8), byte(len(text))})))
		}
		checkRead(t, text)
		_, e := Read(text)
		seen[e]++
	}
	for _, e := range []api.Errno{api.OK, api.ErrShort, api.ErrProto, api.ErrForm, api.ErrSum, api.ErrLarge} {
		if seen[e] == 0 {
			t.Errorf("no text was answered by %d", e)
		}
	}
}

// What Read takes, Write makes anew to the byte.
func TestReadAndWriteAnew(t *testing.T) {
	l := lot(13)
	for range 20000 {
		n := l.draw(30)
		s := summed("\x45\x00" + string([]byte{0, byte(20 + n)}) + l.text(2) + string([]byte{byte(l.draw(128))}) +
			l.text(13+n))
		p, e := Read(s)
		if e != api.OK {
			t.Fatalf("Read(%q) is %d", s, e)
		}
		if back, e := Write(p); back != s || e != api.OK {
			t.Fatalf("Write of Read(%q) is %q, %d", s, back, e)
		}
	}
}

func TestPseudoOfGivenNumbers(t *testing.T) {
	cases := []struct {
		src, dst      uint32
		proto, length int
		want          string
	}{
		{0, 0, 0, 0, "\x00\x00\x00\x00\x00\x00\x00\x00\x00\x00\x00\x00"},
		{1, 2, 6, 300, "\x00\x00\x00\x01\x00\x00\x00\x02\x00\x06\x01\x2c"},
		{0x01020304, 0x05060708, 9, 0x0a0b, "\x01\x02\x03\x04\x05\x06\x07\x08\x00\x09\x0a\x0b"},
		{math.MaxUint32, math.MaxUint32, 255, 65535, "\xff\xff\xff\xff\xff\xff\xff\xff\x00\xff\xff\xff"},
		{1, 2, 256, 65536, "\x00\x00\x00\x01\x00\x00\x00\x02\x00\x00\x00\x00"},
		{1, 2, 256 + 17, 65536 + 8, "\x00\x00\x00\x01\x00\x00\x00\x02\x00\x11\x00\x08"},
		{1, 2, -1, -1, "\x00\x00\x00\x01\x00\x00\x00\x02\x00\xff\xff\xff"},
		{1, 2, -2, -300, "\x00\x00\x00\x01\x00\x00\x00\x02\x00\xfe\xfe\xd4"},
		{1, 2, -256, -65536, "\x00\x00\x00\x01\x00\x00\x00\x02\x00\x00\x00\x00"},
		{1, 2, math.MaxInt, math.MaxInt, "\x00\x00\x00\x01\x00\x00\x00\x02\x00\xff\xff\xff"},
		{1, 2, math.MinInt, math.MinInt, "\x00\x00\x00\x01\x00\x00\x00\x02\x00\x00\x00\x00"},
		{1, 2, math.MinInt + 6, math.MinInt + 20, "\x00\x00\x00\x01\x00\x00\x00\x02\x00\x06\x00\x14"},
	}
	for _, c := range cases {
		if got := Pseudo(c.src, c.dst, c.proto, c.length); got != c.want {
			t.Errorf("Pseudo(%d, %d, %d, %d) is %q, not %q", c.src, c.dst, c.proto, c.length, got, c.want)
		}
	}
}

func TestPseudoOfManyNumbers(t *testing.T) {
	for _, a := range numbers() {
		for _, b := range numbers() {
			want := binary.BigEndian.AppendUint32(nil, uint32(a))
			want = binary.BigEndian.AppendUint32(want, uint32(b))
			want = append(want, 0, uint8(a))
			want = binary.BigEndian.AppendUint16(want, uint16(b))
			if got := Pseudo(uint32(a), uint32(b), a, b); got != string(want) {
				t.Errorf("Pseudo of %d and %d is %q, not %q", a, b, got, want)
			}
		}
	}
}

// share tells whether two texts lie in the same memory, in part at least.
func share(a, b string) bool {
	if a == "" || b == "" {
		return false
	}
	from, to := uintptr(unsafe.Pointer(unsafe.StringData(a))), uintptr(unsafe.Pointer(unsafe.StringData(b)))
	return from < to+uintptr(len(b)) && to < from+uintptr(len(a))
}

func TestAnswersAreNewMemory(t *testing.T) {
	for _, n := range []int{0, 1, 5, 1400} {
		p := with(func(p *api.Packet) { p.Body = some(n) })
		s, _ := Write(p)
		if share(s, p.Body) {
			t.Errorf("Write shares a Body of %d bytes", n)
		}
		q, _ := Read(s)
		if share(s, q.Body) {
			t.Errorf("Read shares a Body of %d bytes", n)
		}
		if again, _ := Read(s); share(q.Body, again.Body) {
			t.Errorf("two Reads share a Body of %d bytes", n)
		}
	}
}

// What came between does not show in what is answered.
func TestNothingIsKept(t *testing.T) {
	first, _ := Write(plain())
	for range 3 {
		Write(api.Packet{Src: 1, Dst: 2, Proto: 255, Ttl: 255, Id: 65535, Dont: true, More: true, Off: 8191, Body: some(1400)})
		Write(api.Packet{Ttl: 256})
		Read(first[:24])
		Read(put(first, 10, "\x00\x00"))
		Pseudo(1, 2, 3, 4)
		if again, e := Write(plain()); again != first || e != api.OK {
			t.Errorf("Write is %q, %d, and was %q", again, e, first)
		}
		if p, e := Read(first); p != plain() || e != api.OK {
			t.Errorf("Read is %v, %d", p, e)
		}
	}
}
