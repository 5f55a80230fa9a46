package frag

import (
	"fmt"
	"math"
	"slices"
	"strings"
	"testing"
	"unsafe"

	"packetboat/api"
)

// lot draws the same numbers at each run.
type lot uint64

func (l *lot) draw(n int) int {
	*l ^= *l << 13
	*l ^= *l >> 7
	*l ^= *l << 17
	return int(uint64(*l) % uint64(n))
}

// text is n bytes of which neighbours, and those a step apart, differ.
func text(n int) string {
	b := make([]byte, n)
	for i := range b {
		b[i] = byte(i*7 + i/8*3 + i/256)
	}
	return string(b)
}

// plain is a packet with a Body of n bytes.
func plain(n int) api.Packet {
	return api.Packet{Src: 0xc0a80001, Dst: 0xc0a800c7, Proto: 17, Ttl: 64, Id: 0x1234, Body: text(n)}
}

// with is p with something changed.
func with(p api.Packet, change func(p *api.Packet)) api.Packet {
	change(&p)
	return p
}

// part is the fragment of p that has its bytes from from up to to.
func part(p api.Packet, from, to int, more bool) api.Packet {
	p.Off, p.More, p.Body = from/8, more, p.Body[from:to]
	return p
}

// slowSplit asks for each thing by itself, in the chapter's order, and takes
// fragments from the front of what is left.
func slowSplit(p api.Packet, mtu int) ([]api.Packet, api.Errno) {
	if mtu < 28 || mtu > 1420 {
		return nil, api.ErrArg
	}
	if p.More || p.Off != 0 {
		return nil, api.ErrArg
	}
	if p.Proto != p.Proto&0xff || p.Ttl != p.Ttl&0xff || p.Id != p.Id&0xffff {
		return nil, api.ErrArg
	}
	if len(p.Body) >= 4001 {
		return nil, api.ErrLarge
	}
	if 20+len(p.Body) <= mtu {
		return []api.Packet{p}, api.OK
	}
	if p.Dont {
		return nil, api.ErrLarge
	}
	steps := 0
	for 20+8*(steps+1) <= mtu {
		steps++
	}
	var list []api.Packet
	for rest, off := p.Body, 0; rest != ""; off += steps {
		f := p
		f.Off, f.Body, f.More = off, rest, false
		if len(rest) > 8*steps {
			f.Body, f.More = rest[:8*steps], true
		}
		list, rest = append(list, f), rest[len(f.Body):]
	}
	return list, api.OK
}

func wantSplit(t *testing.T, p api.Packet, mtu int) {
	t.Helper()
	got, e := Split(p, mtu)
	if want, wantE := slowSplit(p, mtu); e != wantE || !slices.Equal(got, want) {
		t.Fatalf("Split of %.40v, %d bytes, at %d is %d packets, %d, not %d, %d, or others: %.200s",
			p, len(p.Body), mtu, len(got), e, len(want), wantE, fmt.Sprintf("%.8v", got))
	}
}

func TestSplitOfGivenFaults(t *testing.T) {
	frag := func(p *api.Packet) { p.More = true }
	off := func(p *api.Packet) { p.Off = 1 }
	cases := []struct {
		name string
		p    api.Packet
		mtu  int
		want api.Errno
	}{
		{"an mtu of 27", plain(5), 27, api.ErrArg},
		{"an mtu of 28", plain(5), 28, api.OK},
		{"an mtu of 1420", plain(5), 1420, api.OK},
		{"an mtu of 1421", plain(5), 1421, api.ErrArg},
		{"an mtu of 0", plain(5), 0, api.ErrArg},
		{"an mtu of -1", plain(5), -1, api.ErrArg},
		{"an mtu of 20, and no Body", plain(0), 20, api.ErrArg},
		{"the least mtu that an int is", plain(5), math.MinInt, api.ErrArg},
		{"the greatest mtu that an int is", plain(5), math.MaxInt, api.ErrArg},
		{"an mtu of 2^32 + 28", plain(5), 1<<32 + 28, api.ErrArg},
		{"More", with(plain(5), frag), 100, api.ErrArg},
		{"More, and a Body of 8", with(plain(8), frag), 100, api.ErrArg},
		{"Off 1", with(plain(5), off), 100, api.ErrArg},
		{"Off 8191", with(plain(5), func(p *api.Packet) { p.Off = 8191 }), 100, api.ErrArg},
		{"Off 8192", with(plain(5), func(p *api.Packet) { p.Off = 8192 }), 100, api.ErrArg},
		{"Off -1", with(plain(5), func(p *api.Packet) { p.Off = -1 }), 100, api.ErrArg},
		{"More and Off", with(with(plain(5), off), frag), 100, api.ErrArg},
		{"Proto 256", with(plain(5), func(p *api.Packet) { p.Proto = 256 }), 100, api.ErrArg},
		{"Proto -1", with(plain(5), func(p *api.Packet) { p.Proto = -1 }), 100, api.ErrArg},
		{"Ttl 256", with(plain(5), func(p *api.Packet) { p.Ttl = 256 }), 100, api.ErrArg},
		{"Ttl -1", with(plain(5), func(p *api.Packet) { p.Ttl = -1 }), 100, api.ErrArg},
		{"Id 65536", with(plain(5), func(p *api.Packet) { p.Id = 65536 }), 100, api.ErrArg},
		{"Id -1", with(plain(5), func(p *api.Packet) { p.Id = -1 }), 100, api.ErrArg},
		{"all at their most", api.Packet{Src: math.MaxUint32, Dst: math.MaxUint32, Proto: 255, Ttl: 255, Id: 65535,
			Body: text(4000)}, 28, api.OK},
		{"a Body of 1401", plain(1401), 1420, api.OK},
		{"a Body of 4000 at 28", plain(4000), 28, api.OK},
		{"a Body of 4000 at 1420", plain(4000), 1420, api.OK},
		{"a Body of 4001 at 28", plain(4001), 28, api.ErrLarge},
		{"a Body of 4001 at 1420", plain(4001), 1420, api.ErrLarge},
		{"a Body of 2^20", plain(1 << 20), 1420, api.ErrLarge},
		{"Dont, and it just fits", with(plain(80), func(p *api.Packet) { p.Dont = true }), 100, api.OK},
		{"Dont, and one byte more", with(plain(81), func(p *api.Packet) { p.Dont = true }), 100, api.ErrLarge},
		{"Dont, and a Body of 4000", with(plain(4000), func(p *api.Packet) { p.Dont = true }), 1420, api.ErrLarge},

		{"an mtu of 27, and a Body of 4001", plain(4001), 27, api.ErrArg},
		{"an mtu of 27, Dont, and it doesn't fit", with(plain(8), func(p *api.Packet) { p.Dont = true }), 27, api.ErrArg},
		{"More, and a Body of 4001", with(plain(4001), frag), 100, api.ErrArg},
		{"Off 1, and a Body of 4001", with(plain(4001), off), 100, api.ErrArg},
		{"More and Dont, and it doesn't fit", with(plain(800), func(p *api.Packet) { p.More, p.Dont = true, true }), 100,
			api.ErrArg},
		{"Ttl 256, and a Body of 4001", with(plain(4001), func(p *api.Packet) { p.Ttl = 256 }), 100, api.ErrArg},
		{"Id -1 and Dont, and it doesn't fit", with(plain(800), func(p *api.Packet) { p.Id, p.Dont = -1, true }), 100,
			api.ErrArg},
		{"Proto 256, and it doesn't fit", with(plain(800), func(p *api.Packet) { p.Proto = 256 }), 100, api.ErrArg},
	}
	for _, c := range cases {
		list, e := Split(c.p, c.mtu)
		if e != c.want {
			t.Errorf("%s: Split is %d, not %d", c.name, e, c.want)
		}
		if e != api.OK && list != nil {
			t.Errorf("%s: Split tells %.80v beside an error", c.name, list)
		}
		wantSplit(t, c.p, c.mtu)
	}
}

func TestSplitOfGivenPackets(t *testing.T) {
	p := api.Packet{Src: 1, Dst: 2, Proto: 17, Ttl: 9, Id: 5}
	cases := []struct {
		name   string
		body   string
		mtu    int
		bodies []string
	}{
		{"example 6", "abcdefghijklmnopqrst", 28, []string{"abcdefgh", "ijklmnop", "qrst"}},
		{"nothing", "", 28, []string{""}},
		{"just what fits", "abcdefgh", 28, []string{"abcdefgh"}},
		{"one byte more", "abcdefghi", 28, []string{"abcdefgh", "i"}},
		{"the last just as long", "abcdefghijklmnop", 28, []string{"abcdefgh", "ijklmnop"}},
		{"no whole steps fit, alone", "abcdefghijklmno", 35, []string{"abcdefghijklmno"}},
		{"no whole steps fit, and one byte more", "abcdefghijklmnop", 35, []string{"abcdefgh", "ijklmnop"}},
		{"the last is never longer than the others", "abcdefghijklmnopqrst", 35, []string{"abcdefgh", "ijklmnop", "qrst"}},
		{"two steps fit", "abcdefghijklmnopqrst", 36, []string{"abcdefghijklmnop", "qrst"}},
	}
	for _, c := range cases {
		p.Body = c.body
		list, e := Split(p, c.mtu)
		if e != api.OK || len(list) != len(c.bodies) {
			t.Errorf("%s: Split is %v, %d", c.name, list, e)
			continue
		}
		at := 0
		for i, f := range list {
			want := api.Packet{Src: 1, Dst: 2, Proto: 17, Ttl: 9, Id: 5, More: i < len(list)-1, Off: at / 8, Body: c.bodies[i]}
			if f != want {
				t.Errorf("%s: number %d is %v, not %v", c.name, i, f, want)
			}
			at += len(f.Body)
		}
	}
}

// Dont is kept where it fits, at each mtu, and one byte more is refused.
func TestSplitAtEveryMtu(t *testing.T) {
	for mtu := 20; mtu <= 1430; mtu++ {
		for _, n := range []int{0, mtu - 20, mtu - 19, mtu - 12, (mtu - 20) / 8 * 16, (mtu-20)/8*16 + 1, 1400, 1401, 4000, 4001} {
			p := plain(max(n, 0))
			wantSplit(t, p, mtu)
			p.Dont = true
			wantSplit(t, p, mtu)
		}
	}
}

func TestSplitOfEverySize(t *testing.T) {
	for n := range 4010 {
		for _, mtu := range []int{28, 29, 35, 36, 100, 576, 1419, 1420} {
			wantSplit(t, plain(n), mtu)
		}
	}
}

// share tells whether two texts lie in the same memory, in part at least.
func share(a, b string) bool {
	if a == "" || b == "" {
		return false
	}
	from, to := uintptr(unsafe.Pointer(unsafe.StringData(a))), uintptr(unsafe.Pointer(unsafe.StringData(b)))
	return from < to+uintptr(len(b)) && to < from+uintptr(len(a))
}

func TestSplitIsNewMemory(t *testing.T) {
	for _, n := range []int{1, 8, 9, 80, 81, 4000} {
		p := plain(n)
		list, _ := Split(p, 100)
		other, _ := Split(p, 100)
		for i, f := range list {
			if share(f.Body, p.Body) || share(f.Body, other[i].Body) {
				t.Errorf("of %d bytes number %d shares its Body", n, i)
			}
		}
		room := list[:cap(list)]
		for i := range room {
			room[i] = api.Packet{Ttl: 1}
		}
		if want, _ := slowSplit(p, 100); !slices.Equal(other, want) {
			t.Errorf("two lists of %d bytes share memory", n)
		}
		wantSplit(t, p, 100)
	}
}

// slow is a table that keeps each fragment as it came, and holds all of them
// against each other byte by byte.
type slow struct {
	grams []slowGram
}

type slowGram struct {
	list []api.Packet
	age  int
}

func sameGram(p, q api.Packet) bool {
	return p.Src == q.Src && p.Dst == q.Dst && p.Proto == q.Proto && p.Id == q.Id
}

// bytesOf is the bytes of a fragment by their places, and where it ends.
func bytesOf(p api.Packet) (map[int]byte, int) {
	m := map[int]byte{}
	for i := range len(p.Body) {
		m[8*p.Off+i] = p.Body[i]
	}
	return m, 8*p.Off + len(p.Body)
}

// disagree is the chapter's sentence on two fragments, in its order.
func disagree(p, q api.Packet) bool {
	a, aEnd := bytesOf(p)
	b, bEnd := bytesOf(q)
	for at, x := range a {
		if y, both := b[at]; both && x != y {
			return true
		}
		if !q.More && at >= bEnd {
			return true
		}
	}
	for at := range b {
		if !p.More && at >= aEnd {
			return true
		}
	}
	return !p.More && !q.More && aEnd != bEnd
}

// together is the packet that the fragments are, if nothing lacks.
func together(list []api.Packet) (api.Packet, bool) {
	all, end := map[int]byte{}, -1
	for _, p := range list {
		m, to := bytesOf(p)
		for at, x := range m {
			all[at] = x
		}
		if !p.More {
			end = to
		}
	}
	var body []byte
	for at := range end {
		x, is := all[at]
		if !is {
			return api.Packet{}, false
		}
		body = append(body, x)
	}
	if end < 0 {
		return api.Packet{}, false
	}
	first := slices.IndexFunc(list, func(p api.Packet) bool { return p.Off == 0 && p.Body != "" })
	p := list[first]
	p.More, p.Body = false, string(body)
	return p, true
}

func slowCheck(p api.Packet) api.Errno {
	if p.Proto != p.Proto&0xff || p.Ttl != p.Ttl&0xff || p.Id != p.Id&0xffff || p.Off != p.Off&0x1fff {
		return api.ErrArg
	}
	if len(p.Body) >= 1401 {
		return api.ErrLarge
	}
	return api.OK
}

func (s *slow) in(p api.Packet) (api.Packet, bool, api.Errno) {
	if e := slowCheck(p); e != api.OK {
		return api.Packet{}, false, e
	}
	if !p.More && p.Off == 0 {
		return p, true, api.OK
	}
	if p.More && (len(p.Body) == 0 || len(p.Body)&7 != 0) {
		return api.Packet{}, false, api.ErrForm
	}
	if 8*p.Off+len(p.Body) >= 4001 {
		return api.Packet{}, false, api.ErrLarge
	}
	at := slices.IndexFunc(s.grams, func(g slowGram) bool { return sameGram(g.list[0], p) })
	if at < 0 {
		if len(s.grams) >= 8 {
			return api.Packet{}, false, api.ErrFull
		}
		s.grams = append(s.grams, slowGram{list: []api.Packet{p}})
		return api.Packet{}, false, api.OK
	}
	for _, q := range s.grams[at].list {
		if disagree(p, q) {
			s.grams = slices.Delete(s.grams, at, at+1)
			return api.Packet{}, false, api.ErrForm
		}
	}
	s.grams[at].list = append(s.grams[at].list, p)
	whole, is := together(s.grams[at].list)
	if is {
		s.grams = slices.Delete(s.grams, at, at+1)
	}
	return whole, is, api.OK
}

func (s *slow) tick(n int) api.Errno {
	if n < 0 {
		return api.ErrArg
	}
	for i := range s.grams {
		s.grams[i].age += min(n, 30)
	}
	s.grams = slices.DeleteFunc(s.grams, func(g slowGram) bool { return g.age >= 30 })
	return api.OK
}

// wantIn hands p in, and asks for an answer.
func wantIn(t *testing.T, f *Table, p, want api.Packet, wantIs bool, wantE api.Errno) {
	t.Helper()
	q, is, e := f.In(p)
	if q != want || is != wantIs || e != wantE {
		t.Fatalf("In of %.80v, %d bytes, is %.80v, %d bytes, %t, %d, not %.80v, %d bytes, %t, %d",
			p, len(p.Body), q, len(q.Body), is, e, want, len(want.Body), wantIs, wantE)
	}
}

// wantNone hands p in, of which nothing is whole; with e it is refused.
func wantNone(t *testing.T, f *Table, p api.Packet, e api.Errno) {
	t.Helper()
	wantIn(t, f, p, api.Packet{}, false, e)
}

func wantOpen(t *testing.T, f *Table, want int) {
	t.Helper()
	if got := f.Open(); got != want {
		t.Fatalf("%d are open, not %d", got, want)
	}
}

func wantTick(t *testing.T, f *Table, n int, e api.Errno, open int) {
	t.Helper()
	if got := f.Tick(n); got != e {
		t.Errorf("Tick(%d) is %d, not %d", n, got, e)
	}
	wantOpen(t, f, open)
}

// full is a table in which eight are open: of the Ids from 0 to 7, of each the
// first 8 bytes of 16.
func full(t *testing.T) *Table {
	t.Helper()
	f := New()
	for id := range 8 {
		wantNone(t, f, part(numbered(id), 0, 8, true), api.OK)
		wantOpen(t, f, id+1)
	}
	return f
}

// numbered is a packet of 16 bytes with that Id.
func numbered(id int) api.Packet {
	return with(plain(16), func(p *api.Packet) { p.Id = id })
}

func TestANewTable(t *testing.T) {
	wantOpen(t, New(), 0)
	wantTick(t, New(), 0, api.OK, 0)
	wantTick(t, New(), 30, api.OK, 0)
	wantTick(t, New(), -1, api.ErrArg, 0)
}

func TestInOfNoFragment(t *testing.T) {
	f := New()
	for _, p := range []api.Packet{{}, plain(0), plain(1), plain(8), plain(13), plain(1400),
		with(plain(5), func(p *api.Packet) { p.Dont = true }),
		{Src: math.MaxUint32, Dst: math.MaxUint32, Proto: 255, Ttl: 255, Id: 65535, Dont: true, Body: text(1400)}} {
		wantIn(t, f, p, p, true, api.OK)
		wantIn(t, f, p, p, true, api.OK)
		wantOpen(t, f, 0)
	}
}

// One that is whole goes by what is open, also by a full table.
func TestInOfNoFragmentBesideOpenOnes(t *testing.T) {
	f := full(t)
	for _, p := range []api.Packet{numbered(3), numbered(99), with(numbered(3), func(p *api.Packet) { p.Body = "other" })} {
		wantIn(t, f, p, p, true, api.OK)
		wantOpen(t, f, 8)
	}
	wantIn(t, f, part(numbered(3), 8, 16, false), numbered(3), true, api.OK)
	wantOpen(t, f, 7)
}

func TestInOfGivenFaults(t *testing.T) {
	more := func(n, off int) api.Packet {
		return with(plain(n), func(p *api.Packet) { p.Off, p.More = off, true })
	}
	last := func(n, off int) api.Packet {
		return with(plain(n), func(p *api.Packet) { p.Off = off })
	}
	cases := []struct {
		name string
		p    api.Packet
		want api.Errno
	}{
		{"Proto 256", with(more(8, 0), func(p *api.Packet) { p.Proto = 256 }), api.ErrArg},
		{"Proto -1", with(more(8, 0), func(p *api.Packet) { p.Proto = -1 }), api.ErrArg},
		{"Ttl 256", with(more(8, 0), func(p *api.Packet) { p.Ttl = 256 }), api.ErrArg},
		{"Id 65536", with(more(8, 0), func(p *api.Packet) { p.Id = 65536 }), api.ErrArg},
		{"Off 8192", more(8, 8192), api.ErrArg},
		{"Off -1", last(8, -1), api.ErrArg},
		{"the least Off that an int is", last(8, math.MinInt), api.ErrArg},
		{"the greatest Off that an int is", last(8, math.MaxInt), api.ErrArg},
		{"no fragment, and Ttl -1", with(plain(5), func(p *api.Packet) { p.Ttl = -1 }), api.ErrArg},
		{"no fragment, and a Body of 1401", plain(1401), api.ErrLarge},
		{"a Body of 1401", last(1401, 1), api.ErrLarge},
		{"a Body of 1401 with More", more(1401, 0), api.ErrLarge},
		{"a Body of 1408 with More", more(1408, 0), api.ErrLarge},
		{"a Body of 1400 with More", more(1400, 0), api.OK},

		{"no Body with More, at 0", more(0, 0), api.ErrForm},
		{"no Body with More, further on", more(0, 3), api.ErrForm},
		{"1 byte with More", more(1, 0), api.ErrForm},
		{"4 bytes with More", more(4, 1), api.ErrForm},
		{"7 bytes with More", more(7, 0), api.ErrForm},
		{"8 bytes with More", more(8, 0), api.OK},
		{"9 bytes with More", more(9, 0), api.ErrForm},
		{"12 bytes with More", more(12, 2), api.ErrForm},
		{"16 bytes with More", more(16, 0), api.OK},
		{"1399 bytes with More", more(1399, 0), api.ErrForm},
		{"no Body without More", last(0, 1), api.OK},
		{"1 byte without More", last(1, 1), api.OK},
		{"7 bytes without More", last(7, 1), api.OK},
		{"8 bytes without More", last(8, 1), api.OK},
		{"9 bytes without More", last(9, 1), api.OK},

		{"an end at 4000 with More", more(8, 499), api.OK},
		{"an end at 4000 without More", last(8, 499), api.OK},
		{"an end at 3993", last(1, 499), api.OK},
		{"an end at 4000 without a Body", last(0, 500), api.OK},
		{"an end at 4000 of 1400 bytes", last(1400, 325), api.OK},
		{"an end at 4001", last(1, 500), api.ErrLarge},
		{"an end at 4001 of 9 bytes", last(9, 499), api.ErrLarge},
		{"an end at 4008", last(8, 500), api.ErrLarge},
		{"an end at 4008 with More", more(8, 500), api.ErrLarge},
		{"an end at 4008 without a Body", last(0, 501), api.ErrLarge},
		{"an end at 4008 of 1400 bytes", more(1400, 326), api.ErrLarge},
		{"the most of Off", last(0, 8191), api.ErrLarge},
		{"the most of all", more(1400, 8191), api.ErrLarge},

		{"no Body with More, and behind 4000", more(0, 501), api.ErrForm},
		{"9 bytes with More, and behind 4000", more(9, 500), api.ErrForm},
		{"9 bytes with More, and Off 8192", more(9, 8192), api.ErrArg},
		{"a Body of 1401 with More, and Off 8191", more(1401, 8191), api.ErrLarge},
		{"a Body of 1401, and Proto 256", with(last(1401, 1), func(p *api.Packet) { p.Proto = 256 }), api.ErrArg},
		{"no Body with More, and Proto 256", with(more(0, 0), func(p *api.Packet) { p.Proto = 256 }), api.ErrArg},
	}
	for _, c := range cases {
		for _, f := range []*Table{New(), full(t)} {
			open, want := f.Open(), c.want
			if open == 8 && want == api.OK {
				want = api.ErrFull // what is wrong with p is told ahead of it
			}
			q, is, e := f.In(c.p)
			if q != (api.Packet{}) || is || e != want {
				t.Errorf("%s: beside %d In is %.80v, %t, %d, not %d", c.name, open, q, is, e, want)
			}
			if e == api.OK {
				open++
			}
			wantOpen(t, f, open)
		}
	}
}

// What is wrong with a fragment by itself throws nothing away.
func TestFaultsLeaveWhatIsOpen(t *testing.T) {
	p := plain(16)
	f := New()
	wantNone(t, f, part(p, 0, 8, true), api.OK)
	wantNone(t, f, part(p, 8, 8, true), api.ErrForm)
	wantNone(t, f, part(p, 8, 15, true), api.ErrForm)
	wantNone(t, f, with(part(p, 8, 16, false), func(p *api.Packet) { p.Off = 500 }), api.ErrLarge)
	wantNone(t, f, with(part(p, 8, 16, false), func(p *api.Packet) { p.Ttl = 256 }), api.ErrArg)
	wantNone(t, f, with(part(p, 8, 16, false), func(p *api.Packet) { p.Body = text(1401) }), api.ErrLarge)
	wantOpen(t, f, 1)
	wantIn(t, f, part(p, 8, 16, false), p, true, api.OK)
	wantOpen(t, f, 0)
}

// orders hands each order of the numbers below n to visit.
func orders(n int, visit func(order []int)) {
	var grow func(order []int)
	grow = func(order []int) {
		if len(order) == n {
			visit(order)
		}
		for i := range n {
			if !slices.Contains(order, i) {
				grow(append(slices.Clone(order), i))
			}
		}
	}
	grow(nil)
}

func TestFragmentsInEachOrder(t *testing.T) {
	for _, n := range []int{33, 36, 40} {
		p := with(plain(n), func(p *api.Packet) { p.Ttl = 7 })
		list, e := Split(p, 28)
		if e != api.OK || len(list) != 5 {
			t.Fatalf("Split is %v, %d", list, e)
		}
		f := New()
		orders(len(list), func(order []int) {
			for i, k := range order {
				if i == 4 {
					wantIn(t, f, list[k], p, true, api.OK)
					wantOpen(t, f, 0)
					continue
				}
				// Twice: what is there already is there once.
				wantNone(t, f, list[k], api.OK)
				wantNone(t, f, list[k], api.OK)
				wantNone(t, f, list[order[0]], api.OK)
				wantOpen(t, f, 1)
			}
		})
	}
}

// A fragment that comes behind the answer begins anew.
func TestFragmentsBehindTheAnswer(t *testing.T) {
	p := plain(16)
	f := New()
	for range 3 {
		wantNone(t, f, part(p, 8, 16, false), api.OK)
		wantIn(t, f, part(p, 0, 8, true), p, true, api.OK)
		wantOpen(t, f, 0)
	}
	wantNone(t, f, part(p, 0, 8, true), api.OK)
	wantOpen(t, f, 1)
	other := with(p, func(p *api.Packet) { p.Body = text(16)[:8] + "otherend" })
	wantIn(t, f, part(other, 8, 16, false), other, true, api.OK)
}

func TestSplitAndPutTogether(t *testing.T) {
	l := lot(3)
	f := New()
	for _, n := range []int{1, 8, 9, 16, 17, 799, 800, 801, 1400, 1401, 2808, 3999, 4000} {
		for _, mtu := range []int{28, 29, 35, 36, 100, 575, 576, 1419, 1420} {
			p := plain(n)
			list, _ := Split(p, mtu)
			for i := range list {
				k := i + l.draw(len(list)-i)
				list[i], list[k] = list[k], list[i]
			}
			for i, q := range list {
				if i == len(list)-1 {
					wantIn(t, f, q, p, true, api.OK)
				} else {
					wantNone(t, f, q, api.OK)
				}
			}
			wantOpen(t, f, 0)
		}
	}
}

// The end is told by a fragment without bytes.
func TestAnEndWithoutABody(t *testing.T) {
	for _, n := range []int{8, 16, 1400, 4000} {
		p := plain(n)
		for first := range 2 {
			f := New()
			if first == 0 {
				wantNone(t, f, part(p, n, n, false), api.OK)
			}
			for from := 0; from < n; from += 1400 {
				q := part(p, from, min(from+1400, n), true)
				if first == 0 && from+1400 >= n {
					wantIn(t, f, q, p, true, api.OK)
				} else {
					wantNone(t, f, q, api.OK)
				}
			}
			if first == 1 {
				wantOpen(t, f, 1)
				wantIn(t, f, part(p, n, n, false), p, true, api.OK)
			}
			wantOpen(t, f, 0)
		}
	}
}

// Fragments may lie over each other, and within each other.
func TestFragmentsOverEachOther(t *testing.T) {
	p := plain(40)
	f := New()
	wantNone(t, f, part(p, 8, 24, true), api.OK)
	wantNone(t, f, part(p, 16, 32, true), api.OK)
	wantNone(t, f, part(p, 16, 24, true), api.OK)
	wantNone(t, f, part(p, 24, 40, false), api.OK)
	wantNone(t, f, part(p, 32, 40, true), api.OK) // with More it may end there, too
	wantNone(t, f, part(p, 40, 40, false), api.OK)
	wantIn(t, f, part(p, 0, 32, true), p, true, api.OK)
	wantOpen(t, f, 0)
}

// Each byte that lacks keeps it open, and no other one makes up for it.
func TestWhatLacks(t *testing.T) {
	p := plain(40)
	for gap := 0; gap < 40; gap += 8 {
		f := New()
		for range 3 {
			for from := 0; from < 40; from += 8 {
				if from != gap {
					wantNone(t, f, part(p, from, from+8, from < 32), api.OK)
				}
			}
		}
		wantOpen(t, f, 1)
		wantIn(t, f, part(p, gap, gap+8, gap < 32), p, true, api.OK)
	}
}

func TestTheNinth(t *testing.T) {
	f := full(t)
	wantNone(t, f, part(numbered(8), 0, 8, true), api.ErrFull)
	wantNone(t, f, part(numbered(8), 8, 16, false), api.ErrFull)
	wantOpen(t, f, 8)
	wantNone(t, f, part(numbered(0), 0, 8, true), api.OK)
	wantOpen(t, f, 8)
	wantIn(t, f, part(numbered(5), 8, 16, false), numbered(5), true, api.OK)
	wantOpen(t, f, 7)
	wantNone(t, f, part(numbered(8), 8, 16, false), api.OK)
	wantOpen(t, f, 8)
	wantNone(t, f, part(numbered(5), 0, 8, true), api.ErrFull)
	bad := with(part(numbered(2), 0, 8, true), func(p *api.Packet) { p.Body = "otherone" })
	wantNone(t, f, bad, api.ErrForm)
	wantOpen(t, f, 7)
	wantNone(t, f, part(numbered(5), 0, 8, true), api.OK)
	wantIn(t, f, part(numbered(8), 0, 8, true), numbered(8), true, api.OK)
	wantTick(t, f, 30, api.OK, 0)
	wantNone(t, f, part(numbered(9), 0, 8, true), api.OK)
	wantOpen(t, f, 1)
}

func TestFragmentsThatDisagree(t *testing.T) {
	p := plain(64)
	other := func(from, to, at int, more bool) api.Packet {
		q := part(p, from, to, more)
		b := []byte(q.Body)
		b[at-from] ^= 1
		q.Body = string(b)
		return q
	}
	cases := []struct {
		name  string
		a, b  api.Packet
		clash bool
	}{
		{"the same", part(p, 0, 8, true), part(p, 0, 8, true), false},
		{"another first byte", part(p, 0, 8, true), other(0, 8, 0, true), true},
		{"another last byte", part(p, 0, 8, true), other(0, 8, 7, true), true},
		{"another byte where they overlap", part(p, 0, 16, true), other(8, 24, 15, true), true},
		{"another byte where they don't", part(p, 0, 16, true), other(8, 24, 16, true), false},
		{"another byte within", part(p, 0, 32, true), other(8, 16, 12, true), true},
		{"another byte of the last one", part(p, 8, 21, false), other(8, 21, 20, false), true},
		{"another byte of one with More and the last one", part(p, 8, 16, true), other(8, 16, 10, false), true},
		{"with More and without, the same end", part(p, 8, 16, true), part(p, 8, 16, false), false},
		{"bytes behind the end", part(p, 8, 16, false), part(p, 16, 24, true), true},
		{"a byte behind the end", part(p, 8, 15, false), part(p, 8, 16, true), true},
		{"bytes far behind the end", part(p, 8, 16, false), part(p, 48, 56, true), true},
		{"bytes up to the end", part(p, 8, 16, false), part(p, 0, 16, true), false},
		{"bytes up to an end without a Body", part(p, 16, 16, false), part(p, 8, 16, true), false},
		{"bytes behind an end without a Body", part(p, 16, 16, false), part(p, 16, 24, true), true},
		{"bytes over an end without a Body", part(p, 16, 16, false), part(p, 8, 24, true), true},
		{"two ends", part(p, 8, 16, false), part(p, 8, 15, false), true},
		{"two ends that share no byte", part(p, 8, 16, false), part(p, 32, 40, false), true},
		{"two ends, one without a Body", part(p, 8, 16, false), part(p, 24, 24, false), true},
		{"two ends, the nearer one without a Body", part(p, 16, 24, false), part(p, 8, 8, false), true},
		{"two ends, both without a Body", part(p, 16, 16, false), part(p, 24, 24, false), true},
		{"the same end", part(p, 8, 24, false), part(p, 16, 24, false), false},
		{"the same end, one without a Body", part(p, 8, 24, false), part(p, 24, 24, false), false},
	}
	for _, c := range cases {
		if disagree(c.a, c.b) != c.clash {
			t.Errorf("%s: the test's own table says otherwise", c.name)
		}
		for _, pair := range [][2]api.Packet{{c.a, c.b}, {c.b, c.a}} {
			checkPair(t, c.name, pair[0], pair[1], c.clash)
		}
	}
}

// checkPair hands in two fragments, of which something lacks then. What clashes
// is gone, both of them, so that the second one begins anew.
func checkPair(t *testing.T, name string, a, b api.Packet, clash bool) {
	t.Helper()
	f, s := New(), &slow{}
	beside := with(part(plain(16), 0, 8, true), func(p *api.Packet) { p.Id = 77 })
	for i, p := range []api.Packet{beside, a, b} {
		q, is, e := f.In(p)
		want, wantIs, wantE := s.in(p)
		if q != want || is != wantIs || e != wantE {
			t.Errorf("%s: number %d: In is %v, %t, %d, not %v, %t, %d", name, i, q, is, e, want, wantIs, wantE)
		}
		if i == 2 && (e == api.ErrForm) != clash {
			t.Errorf("%s: In is %d", name, e)
		}
	}
	wantOpen(t, f, len(s.grams))
	if !clash {
		return
	}
	wantOpen(t, f, 1)
	wantNone(t, f, b, api.OK)
	wantOpen(t, f, 2)
}

// What is there was told by several, and the newest is held against each.
func TestTheThirdDisagreesWithTheFirst(t *testing.T) {
	p := plain(64)
	f := New()
	wantNone(t, f, part(p, 40, 48, true), api.OK)
	wantNone(t, f, part(p, 0, 8, true), api.OK)
	wantNone(t, f, part(p, 16, 32, false), api.ErrForm)
	wantOpen(t, f, 0)
	wantNone(t, f, part(p, 16, 24, false), api.OK)
	wantNone(t, f, part(p, 0, 8, true), api.OK)
	wantNone(t, f, part(p, 24, 32, true), api.ErrForm)
	wantOpen(t, f, 0)
	// Nothing of what was thrown away is left: an end at 24 would clash.
	wantNone(t, f, part(p, 0, 56, true), api.OK)
	wantIn(t, f, part(p, 56, 64, false), p, true, api.OK)
}

// Packets that differ in one thing alone are put together side by side.
func TestSideBySide(t *testing.T) {
	p := plain(24)
	others := []api.Packet{
		p,
		with(p, func(p *api.Packet) { p.Src++ }),
		with(p, func(p *api.Packet) { p.Dst++ }),
		with(p, func(p *api.Packet) { p.Proto = 6 }),
		with(p, func(p *api.Packet) { p.Id++ }),
		with(p, func(p *api.Packet) { p.Src, p.Dst = p.Dst, p.Src }),
		with(p, func(p *api.Packet) { p.Src, p.Id = p.Src^1<<31, 65535 }),
		with(p, func(p *api.Packet) { p.Dst, p.Id, p.Proto = 0, 0, 0 }),
	}
	f := New()
	for i := range others {
		// Bytes of their own: if two were taken for one, they would clash.
		others[i].Body = strings.Repeat(string([]byte{'a' + byte(i)}), 24)
	}
	for i, q := range others {
		wantNone(t, f, part(q, 8, 16, true), api.OK)
		wantOpen(t, f, i+1)
	}
	for _, q := range others {
		wantNone(t, f, part(q, 16, 24, false), api.OK)
	}
	wantOpen(t, f, 8)
	for i, q := range others {
		wantIn(t, f, part(q, 0, 8, true), q, true, api.OK)
		wantOpen(t, f, 7-i)
	}
}

// Ttl and Dont are not what fragments must have in common.
func TestDontAndTtlOfByteZero(t *testing.T) {
	p := plain(24)
	marked := func(q api.Packet, ttl int, dont bool) api.Packet {
		q.Ttl, q.Dont = ttl, dont
		return q
	}
	first, mid, end := part(p, 0, 8, true), part(p, 8, 16, true), part(p, 16, 24, false)
	wide := part(p, 0, 16, true)
	cases := []struct {
		name string
		list []api.Packet
		ttl  int
		dont bool
	}{
		{"it came first", []api.Packet{marked(first, 1, true), marked(mid, 2, false), marked(end, 3, false)}, 1, true},
		{"it came last", []api.Packet{marked(end, 3, true), marked(mid, 2, true), marked(first, 1, false)}, 1, false},
		{"it came between", []api.Packet{marked(mid, 2, false), marked(first, 255, true), marked(end, 3, false)}, 255, true},
		{"two have it", []api.Packet{marked(first, 1, true), marked(first, 4, false), marked(mid, 2, false),
			marked(end, 3, false)}, 1, true},
		{"two have it, of two sizes", []api.Packet{marked(end, 3, true), marked(first, 4, false), marked(wide, 1, true)}, 4, false},
		{"two have it, the wider one first", []api.Packet{marked(wide, 5, true), marked(first, 4, false), marked(end, 3, false)},
			5, true},
		{"two have it, the first with Ttl 0", []api.Packet{marked(mid, 3, true), marked(first, 0, false), marked(first, 4, true),
			marked(end, 9, true)}, 0, false},
	}
	for _, c := range cases {
		f := New()
		for i, q := range c.list {
			if i < len(c.list)-1 {
				wantNone(t, f, q, api.OK)
			} else {
				wantIn(t, f, q, marked(p, c.ttl, c.dont), true, api.OK)
			}
		}
		wantOpen(t, f, 0)
	}
}

// begun is a table in which one is open.
func begun(t *testing.T) *Table {
	t.Helper()
	f := New()
	wantNone(t, f, part(plain(16), 0, 8, true), api.OK)
	return f
}

func TestTicksAtOnce(t *testing.T) {
	cases := []struct {
		n    int
		e    api.Errno
		open int
	}{
		{math.MinInt, api.ErrArg, 1}, {-30, api.ErrArg, 1}, {-1, api.ErrArg, 1}, {0, api.OK, 1}, {1, api.OK, 1}, {29, api.OK, 1},
		{30, api.OK, 0}, {31, api.OK, 0}, {1000, api.OK, 0}, {1 << 32, api.OK, 0}, {math.MaxInt, api.OK, 0},
	}
	for _, c := range cases {
		wantTick(t, begun(t), c.n, c.e, c.open)
	}
}

func TestTicksInPieces(t *testing.T) {
	f := begun(t)
	for range 29 {
		wantTick(t, f, 1, api.OK, 1)
		wantTick(t, f, 0, api.OK, 1)
		wantTick(t, f, -1, api.ErrArg, 1)
		wantTick(t, f, math.MinInt, api.ErrArg, 1)
	}
	wantTick(t, f, 1, api.OK, 0)
	for _, n := range []int{1, 2, 30, math.MaxInt} {
		f := begun(t)
		wantTick(t, f, 29, api.OK, 1)
		wantTick(t, f, 0, api.OK, 1)
		wantTick(t, f, n, api.OK, 0)
	}
	f = begun(t)
	wantTick(t, f, 10, api.OK, 1)
	wantTick(t, f, 19, api.OK, 1)
	wantIn(t, f, part(plain(16), 8, 16, false), plain(16), true, api.OK)
	wantOpen(t, f, 0)
}

// The time counts from the first fragment on; a later one does not renew it.
func TestTicksCountFromTheFirst(t *testing.T) {
	p := plain(32)
	f := New()
	wantNone(t, f, part(p, 0, 8, true), api.OK)
	wantTick(t, f, 29, api.OK, 1)
	wantNone(t, f, part(p, 8, 16, true), api.OK)
	wantNone(t, f, part(p, 0, 8, true), api.OK)
	wantTick(t, f, 1, api.OK, 0)
	// What comes behind it begins anew, with a time of its own.
	wantNone(t, f, part(p, 16, 32, false), api.OK)
	wantTick(t, f, 29, api.OK, 1)
	wantNone(t, f, part(p, 8, 16, true), api.OK)
	wantIn(t, f, part(p, 0, 8, true), p, true, api.OK)
	wantTick(t, f, 29, api.OK, 0)
}

// Time that goes by ahead of the first fragment is not its own.
func TestTicksAheadOfTheFirst(t *testing.T) {
	f := New()
	wantTick(t, f, 29, api.OK, 0)
	wantTick(t, f, math.MaxInt, api.OK, 0)
	wantTick(t, f, math.MaxInt, api.OK, 0)
	wantNone(t, f, part(plain(16), 0, 8, true), api.OK)
	wantTick(t, f, 29, api.OK, 1)
	wantTick(t, f, 1, api.OK, 0)
}

// Each has a time of its own, and those that stay keep what they have.
func TestTicksOfSeveral(t *testing.T) {
	f := New()
	for id := range 8 {
		wantNone(t, f, part(numbered(id), 0, 8, true), api.OK)
		wantTick(t, f, 3, api.OK, id+1)
	}
	for id := range 8 {
		// The oldest has been open for 24 ticks, each other one for 3 fewer.
		wait := 3
		if id == 0 {
			wait = 6
		}
		wantTick(t, f, wait-1, api.OK, 8-id)
		wantTick(t, f, 1, api.OK, 7-id)
		if id < 7 {
			wantNone(t, f, part(numbered(7), 0, 8, true), api.OK)
		}
	}
}

// What is thrown away leaves its bytes behind nowhere.
func TestNothingIsLeftOfWhatIsThrownAway(t *testing.T) {
	p := plain(16)
	other := with(p, func(p *api.Packet) { p.Body = strings.Repeat("x", 16) })
	f := begun(t)
	wantTick(t, f, 30, api.OK, 0)
	wantNone(t, f, part(other, 0, 8, true), api.OK)
	wantIn(t, f, part(other, 8, 16, false), other, true, api.OK)
	wantNone(t, f, part(p, 8, 16, false), api.OK)
	wantOpen(t, f, 1)
}

// P2: what is answered is new memory, and tables have nothing in common.
func TestInIsNewMemory(t *testing.T) {
	f := New()
	p := plain(16)
	if q, _, _ := f.In(p); share(p.Body, q.Body) {
		t.Error("what is no fragment shares its Body")
	}
	first, last := part(p, 0, 8, true), part(p, 8, 16, false)
	f.In(first)
	q, _, _ := f.In(last)
	if share(q.Body, p.Body) {
		t.Error("what is put together shares its Body")
	}
	f.In(first)
	if again, _, _ := f.In(last); again != q || share(q.Body, again.Body) {
		t.Error("two that were put together share their Body")
	}
}

// P2: a text that lies in a buffer, which is filled anew behind the call.
func TestInKeepsACopy(t *testing.T) {
	p := plain(16)
	room := []byte(p.Body[:8])
	first := part(p, 0, 8, true)
	first.Body = unsafe.String(unsafe.SliceData(room), len(room))
	f := New()
	wantNone(t, f, first, api.OK)
	clear(room)
	wantIn(t, f, part(p, 8, 16, false), p, true, api.OK)
}

func TestTwoTables(t *testing.T) {
	p := plain(16)
	f, g := full(t), New()
	wantOpen(t, g, 0)
	wantNone(t, g, part(p, 8, 16, false), api.OK)
	wantTick(t, g, 30, api.OK, 0)
	wantOpen(t, f, 8)
	wantNone(t, g, part(numbered(0), 8, 16, false), api.OK)
	wantIn(t, f, part(numbered(0), 8, 16, false), numbered(0), true, api.OK)
	wantOpen(t, g, 1)
}

// drawn is a fragment of one of a few packets, now and then one that differs
// from them, and now and then a wrong one.
func (l *lot) drawn() api.Packet {
	id := l.draw(11)
	size := 1 + l.draw(4)*8 + id
	whole := with(plain(64+size), func(p *api.Packet) { p.Id, p.Ttl, p.Dont = id, l.draw(256), l.draw(2) == 0 })
	from := l.draw(6) * 8
	to := from + (1+l.draw(3))*8
	end := 24 + id
	p := part(whole, from, min(to, max(end, from)), to < end)
	switch l.draw(40) {
	case 0:
		p.More = !p.More
	case 1:
		p.Body += "x"
	case 2:
		p.Off += l.draw(8192)
	case 3:
		p.Body = strings.Repeat("y", len(p.Body))
	case 4:
		p.Body = ""
	case 5:
		p.Proto = l.draw(300) - 20
	case 6:
		p.Body = text(l.draw(1500))
	}
	return p
}

// Many calls, each held against the slow table.
func TestManyCalls(t *testing.T) {
	seen, whole := map[api.Errno]int{}, 0
	for seed := range 60 {
		l := lot(seed*7919 + 1)
		f, s := New(), &slow{}
		for i := range 2000 {
			if l.draw(8) == 0 {
				n := l.draw(14) - 2
				if got, want := f.Tick(n), s.tick(n); got != want {
					t.Fatalf("seed %d, call %d: Tick(%d) is %d, not %d", seed, i, n, got, want)
				}
			}
			p := l.drawn()
			q, is, e := f.In(p)
			want, wantIs, wantE := s.in(p)
			if q != want || is != wantIs || e != wantE {
				t.Fatalf("seed %d, call %d: In of %.80v is %.80v, %t, %d, not %.80v, %t, %d", seed, i, p, q, is, e, want, wantIs, wantE)
			}
			if f.Open() != len(s.grams) {
				t.Fatalf("seed %d, call %d: %d are open, not %d", seed, i, f.Open(), len(s.grams))
			}
			seen[e]++
			if is && p.Off+len(p.Body) < len(q.Body) {
				whole++
			}
		}
	}
	for _, e := range []api.Errno{api.OK, api.ErrArg, api.ErrForm, api.ErrLarge, api.ErrFull} {
		if seen[e] < 100 {
			t.Errorf("%d calls came to %d", seen[e], e)
		}
	}
	if whole < 100 {
		t.Errorf("%d were put together", whole)
	}
}

// Every set of three fragments of a short packet, with More and without, of
// bytes that agree: all that the ends of fragments can say is there.
func TestEveryThreeEnds(t *testing.T) {
	p := plain(24)
	var list []api.Packet
	for from := 0; from <= 16; from += 8 {
		for to := from; to <= 24; to += 4 {
			list = append(list, part(p, from, to, false))
			if to > from && to%8 == 0 {
				list = append(list, part(p, from, to, true))
			}
		}
	}
	for _, a := range list {
		for _, b := range list {
			for _, c := range list {
				f, s := New(), &slow{}
				for _, q := range []api.Packet{a, b, c} {
					want, is, e := s.in(q)
					wantIn(t, f, q, want, is, e)
					wantOpen(t, f, len(s.grams))
				}
			}
		}
	}
}
