package route

import (
	"cmp"
	"math"
	"slices"
	"testing"

	"packetboat/addr"
	"packetboat/api"
)

const (
	all  = 1 << 32 // how many addresses there are
	half = 1 << 31
	last = all - 1
)

// row is a prefix and its way.
type row struct {
	p   api.Prefix
	via int
}

// slow is a table that goes by another way than Table does: a list that is
// looked through from its beginning to its end.
type slow struct {
	rows []row
}

func (s *slow) place(p api.Prefix) int {
	return slices.IndexFunc(s.rows, func(r row) bool { return r.p == p })
}

func (s *slow) add(p api.Prefix, via int) api.Errno {
	switch e := addr.Check(p); {
	case e != api.OK:
		return e
	case s.place(p) >= 0:
		return api.ErrTwice
	case len(s.rows) >= 64:
		return api.ErrFull
	}
	s.rows = append(s.rows, row{p, via})
	return api.OK
}

func (s *slow) drop(p api.Prefix) api.Errno {
	if e := addr.Check(p); e != api.OK {
		return e
	}
	at := s.place(p)
	if at < 0 {
		return api.ErrNone
	}
	s.rows = slices.Delete(s.rows, at, at+1)
	return api.OK
}

func (s *slow) find(a uint32) (int, api.Prefix, bool) {
	best, found := row{}, false
	for _, r := range s.rows {
		if addr.Has(r.p, a) && (!found || r.p.Bits > best.p.Bits) {
			best, found = r, true
		}
	}
	return best.via, best.p, found
}

func (s *slow) all() []api.Prefix {
	var list []api.Prefix
	for _, r := range s.rows {
		list = append(list, r.p)
	}
	slices.SortFunc(list, func(a, b api.Prefix) int {
		return cmp.Or(cmp.Compare(a.Addr, b.Addr), cmp.Compare(a.Bits, b.Bits))
	})
	return list
}

// prefix is the one that is printed as s.
func prefix(t *testing.T, s string) api.Prefix {
	t.Helper()
	p, e := addr.ParsePrefix(s)
	if e != api.OK {
		t.Fatalf("%q is no prefix", s)
	}
	return p
}

// address is the one that is printed as s.
func address(t *testing.T, s string) uint32 {
	t.Helper()
	a, e := addr.Parse(s)
	if e != api.OK {
		t.Fatalf("%q is no address", s)
	}
	return a
}

// table has the prefixes, of which the first one leads by 100, the next by 101.
func table(t *testing.T, texts ...string) *Table {
	t.Helper()
	r := New()
	for i, s := range texts {
		if e := r.Add(prefix(t, s), 100+i); e != api.OK {
			t.Fatalf("Add of %s is %d", s, e)
		}
	}
	return r
}

// full is a table of 64 prefixes, one of 32 bits for each of the addresses
// from 0 to 63, which leads by that number.
func full(t *testing.T) *Table {
	t.Helper()
	r := New()
	for i := range 64 {
		if e := r.Add(api.Prefix{Addr: uint32(i), Bits: 32}, i); e != api.OK {
			t.Fatalf("Add of number %d is %d", i, e)
		}
	}
	return r
}

// wrong are prefixes that addr.Check finds fault with, and what it says.
func wrong() map[api.Prefix]api.Errno {
	return map[api.Prefix]api.Errno{
		{Addr: 0, Bits: -1}:             api.ErrArg,
		{Addr: 0, Bits: 33}:             api.ErrArg,
		{Addr: 0, Bits: 64}:             api.ErrArg,
		{Addr: 0, Bits: all}:            api.ErrArg,
		{Addr: 10 << 24, Bits: all + 8}: api.ErrArg,
		{Addr: last, Bits: -1}:          api.ErrArg,
		{Addr: last, Bits: 33}:          api.ErrArg,
		{Addr: 1, Bits: math.MinInt}:    api.ErrArg,
		{Addr: 1, Bits: math.MaxInt}:    api.ErrArg,
		{Addr: 1, Bits: 0}:              api.ErrForm,
		{Addr: half, Bits: 0}:           api.ErrForm,
		{Addr: last, Bits: 31}:          api.ErrForm,
		{Addr: 10<<24 + 1, Bits: 8}:     api.ErrForm,
		{Addr: 10<<24 + 1<<23, Bits: 8}: api.ErrForm,
	}
}

func wantFind(t *testing.T, r *Table, a uint32, via int, p api.Prefix, found bool) {
	t.Helper()
	gotVia, gotP, gotFound := r.Find(a)
	if gotVia != via || gotP != p || gotFound != found {
		t.Errorf("Find(%s) is %d, %v, %t, not %d, %v, %t", addr.Print(a), gotVia, gotP, gotFound, via, p, found)
	}
}

func wantAll(t *testing.T, r *Table, texts ...string) {
	t.Helper()
	var got []string
	for _, p := range r.All() {
		s, _ := addr.PrintPrefix(p)
		got = append(got, s)
	}
	if !slices.Equal(got, texts) {
		t.Errorf("All is %q, not %q", got, texts)
	}
}

// ends are addresses at both ends, in the middle, and some between.
func ends() []uint32 {
	return []uint32{0, 1, 2, 63, 64, 255, 256, 10 << 24, 10<<24 + 1, 11<<24 - 1, 11 << 24, half - 1, half, half + 1,
		0xc0a80001, last - 1, last}
}

func TestAnEmptyTable(t *testing.T) {
	r := New()
	for _, a := range ends() {
		wantFind(t, r, a, 0, api.Prefix{}, false)
		for bits := range 33 {
			p := api.Prefix{Addr: uint32(int(a) >> (32 - bits) << (32 - bits)), Bits: bits}
			if e := r.Drop(p); e != api.ErrNone {
				t.Errorf("Drop of %v is %d", p, e)
			}
		}
	}
	wantAll(t, r)
}

func TestFindTakesTheMostBits(t *testing.T) {
	texts := []string{"10.1.0.0/16", "0.0.0.0/0", "10.1.2.3/32", "10.0.0.0/8"}
	r := table(t, texts...)
	cases := []struct {
		a  string
		at int
	}{
		{"10.1.9.9", 0}, {"10.1.0.0", 0}, {"10.1.255.255", 0}, {"10.1.2.2", 0}, {"10.1.2.4", 0},
		{"0.0.0.0", 1}, {"255.255.255.255", 1}, {"9.255.255.255", 1}, {"11.0.0.0", 1}, {"138.1.2.3", 1},
		{"10.1.2.3", 2},
		{"10.0.0.0", 3}, {"10.0.255.255", 3}, {"10.2.0.0", 3}, {"10.255.255.255", 3},
	}
	for _, c := range cases {
		wantFind(t, r, address(t, c.a), 100+c.at, prefix(t, texts[c.at]), true)
	}
}

func TestFindOfWhatNoneHas(t *testing.T) {
	r := table(t, "10.1.0.0/16", "10.1.2.3/32", "192.168.0.0/24", "192.168.0.128/25")
	for _, a := range []string{"0.0.0.0", "10.0.0.0", "10.0.255.255", "10.2.0.0", "11.1.2.3", "138.1.2.3",
		"192.167.255.255", "192.168.1.0", "255.255.255.255"} {
		wantFind(t, r, address(t, a), 0, api.Prefix{}, false)
	}
}

func TestThePrefixOfNoBits(t *testing.T) {
	r := table(t, "0.0.0.0/0")
	for _, a := range ends() {
		wantFind(t, r, a, 100, api.Prefix{}, true)
	}
	wantAll(t, r, "0.0.0.0/0")
	if e := r.Add(api.Prefix{}, 7); e != api.ErrTwice {
		t.Errorf("Add of what is there is %d", e)
	}
	if e := r.Drop(api.Prefix{Bits: 1}); e != api.ErrNone {
		t.Errorf("Drop of one below is %d", e)
	}
	if e := r.Drop(api.Prefix{}); e != api.OK {
		t.Errorf("Drop is %d", e)
	}
	wantFind(t, r, 0, 0, api.Prefix{}, false)
	wantAll(t, r)
}

func TestPrefixesOf32Bits(t *testing.T) {
	r := table(t, "255.255.255.255/32", "0.0.0.0/32", "128.0.0.0/32", "127.255.255.255/32")
	wantFind(t, r, last, 100, api.Prefix{Addr: last, Bits: 32}, true)
	wantFind(t, r, 0, 101, api.Prefix{Bits: 32}, true)
	wantFind(t, r, half, 102, api.Prefix{Addr: half, Bits: 32}, true)
	wantFind(t, r, half-1, 103, api.Prefix{Addr: half - 1, Bits: 32}, true)
	for _, a := range []uint32{1, half - 2, half + 1, last - 1} {
		wantFind(t, r, a, 0, api.Prefix{}, false)
	}
	wantAll(t, r, "0.0.0.0/32", "127.255.255.255/32", "128.0.0.0/32", "255.255.255.255/32")
	if e := r.Drop(api.Prefix{Addr: last, Bits: 32}); e != api.OK {
		t.Errorf("Drop is %d", e)
	}
	wantFind(t, r, last, 0, api.Prefix{}, false)
	wantAll(t, r, "0.0.0.0/32", "127.255.255.255/32", "128.0.0.0/32")
}

func TestEveryLengthAtBothEnds(t *testing.T) {
	for _, a := range []uint32{0, last, 0x55555555, 0xaaaaaaaa} {
		r := New()
		for bits := 32; bits >= 0; bits-- {
			p := api.Prefix{Addr: uint32(int(a) >> (32 - bits) << (32 - bits)), Bits: bits}
			if e := r.Add(p, -bits); e != api.OK {
				t.Fatalf("Add of %v is %d", p, e)
			}
		}
		for bits := 32; bits >= 0; bits-- {
			p := api.Prefix{Addr: uint32(int(a) >> (32 - bits) << (32 - bits)), Bits: bits}
			wantFind(t, r, a, -bits, p, true)
			if bits < 32 {
				wantFind(t, r, a^half>>bits, -bits, p, true)
			}
			if e := r.Drop(p); e != api.OK {
				t.Errorf("Drop of %v is %d", p, e)
			}
		}
		wantFind(t, r, a, 0, api.Prefix{}, false)
	}
}

// A way is any number, also 0, and one that several prefixes have.
func TestAnyWay(t *testing.T) {
	p, q := api.Prefix{Addr: 10 << 24, Bits: 8}, api.Prefix{Addr: 10 << 24, Bits: 16}
	for _, via := range []int{math.MinInt, -all, -1, 0, 1, 64, last, all, math.MaxInt} {
		r := New()
		if e := r.Add(p, via); e != api.OK {
			t.Errorf("Add by %d is %d", via, e)
		}
		if e := r.Add(q, via); e != api.OK {
			t.Errorf("Add of another by %d is %d", via, e)
		}
		wantFind(t, r, 10<<24+1, via, q, true)
		wantFind(t, r, 11<<24-1, via, p, true)
	}
}

func TestAddOfWhatIsThere(t *testing.T) {
	r := table(t, "10.0.0.0/8", "10.1.0.0/16")
	for _, via := range []int{100, 0, 7} {
		if e := r.Add(prefix(t, "10.0.0.0/8"), via); e != api.ErrTwice {
			t.Errorf("Add by %d is %d", via, e)
		}
	}
	wantFind(t, r, 10<<24, 100, prefix(t, "10.0.0.0/8"), true)
	wantAll(t, r, "10.0.0.0/8", "10.1.0.0/16")
}

// Those of the same Addr, and those within each other, are not the same.
func TestAddOfWhatLiesBesideOthers(t *testing.T) {
	r := table(t, "10.0.0.0/8")
	for i, s := range []string{"10.0.0.0/7", "10.0.0.0/9", "10.0.0.0/32", "0.0.0.0/0", "8.0.0.0/5", "11.0.0.0/8"} {
		if e := r.Add(prefix(t, s), i); e != api.OK {
			t.Errorf("Add of %s is %d", s, e)
		}
	}
}

func TestAFullTable(t *testing.T) {
	r := full(t)
	before := r.All()
	for _, s := range []string{"0.0.0.64/32", "0.0.0.0/31", "0.0.0.0/0", "255.255.255.255/32", "10.0.0.0/8"} {
		if e := r.Add(prefix(t, s), 7); e != api.ErrFull {
			t.Errorf("Add of %s is %d", s, e)
		}
	}
	// ErrTwice is told ahead of ErrFull, and what addr.Check says ahead of both.
	if e := r.Add(api.Prefix{Addr: 5, Bits: 32}, 7); e != api.ErrTwice {
		t.Errorf("Add of what is there is %d", e)
	}
	for p, want := range wrong() {
		if e := r.Add(p, 7); e != want {
			t.Errorf("Add of %v is %d, not %d", p, e, want)
		}
	}
	if got := r.All(); !slices.Equal(got, before) || len(got) != 64 {
		t.Errorf("behind errors All is %v", got)
	}
	for i := range 64 {
		wantFind(t, r, uint32(i), i, api.Prefix{Addr: uint32(i), Bits: 32}, true)
	}
	wantFind(t, r, 64, 0, api.Prefix{}, false)
	wantFind(t, r, last, 0, api.Prefix{}, false)
}

// A Drop makes room for just one, and one that fails makes none.
func TestRoomBehindADrop(t *testing.T) {
	r := full(t)
	if e := r.Drop(api.Prefix{Addr: 64, Bits: 32}); e != api.ErrNone {
		t.Errorf("Drop of what isn't there is %d", e)
	}
	if e := r.Add(api.Prefix{}, 7); e != api.ErrFull {
		t.Errorf("behind a Drop of nothing Add is %d", e)
	}
	if e := r.Drop(api.Prefix{Addr: 5, Bits: 32}); e != api.OK {
		t.Errorf("Drop is %d", e)
	}
	if e := r.Add(api.Prefix{}, 7); e != api.OK {
		t.Errorf("behind a Drop Add is %d", e)
	}
	if e := r.Add(api.Prefix{Addr: 5, Bits: 32}, 7); e != api.ErrFull {
		t.Errorf("behind a Drop and an Add another Add is %d", e)
	}
	wantFind(t, r, 5, 7, api.Prefix{}, true)
	wantFind(t, r, 6, 6, api.Prefix{Addr: 6, Bits: 32}, true)
	if got := len(r.All()); got != 64 {
		t.Errorf("there are %d", got)
	}
}

// An Add that fails takes no room.
func TestErrorsTakeNoRoom(t *testing.T) {
	r := table(t, "10.0.0.0/8")
	for range 100 {
		for p := range wrong() {
			r.Add(p, 7)
			r.Drop(p)
		}
		r.Add(prefix(t, "10.0.0.0/8"), 7)
		r.Drop(prefix(t, "10.0.0.0/9"))
	}
	for i := range 63 {
		if e := r.Add(api.Prefix{Addr: uint32(i), Bits: 32}, i); e != api.OK {
			t.Fatalf("Add of number %d is %d", i, e)
		}
	}
	if e := r.Add(api.Prefix{}, 7); e != api.ErrFull {
		t.Errorf("Add is %d", e)
	}
}

func TestWrongPrefixes(t *testing.T) {
	for name, r := range map[string]*Table{"empty": New(), "filled": table(t, "0.0.0.0/0", "10.0.0.0/8", "0.0.0.0/32")} {
		before := r.All()
		for p, want := range wrong() {
			if e := r.Add(p, 7); e != want {
				t.Errorf("%s: Add of %v is %d, not %d", name, p, e, want)
			}
			if e := r.Drop(p); e != want {
				t.Errorf("%s: Drop of %v is %d, not %d", name, p, e, want)
			}
		}
		if got := r.All(); !slices.Equal(got, before) {
			t.Errorf("%s: behind errors All is %v", name, got)
		}
	}
}

func TestDropOfWhatIsNotThere(t *testing.T) {
	r := table(t, "10.0.0.0/8", "10.1.0.0/16", "10.1.2.3/32")
	for _, s := range []string{"0.0.0.0/0", "10.0.0.0/7", "10.0.0.0/9", "10.0.0.0/16", "10.1.0.0/17", "10.1.2.2/31",
		"10.1.2.2/32", "11.0.0.0/8", "138.0.0.0/8", "255.255.255.255/32"} {
		if e := r.Drop(prefix(t, s)); e != api.ErrNone {
			t.Errorf("Drop of %s is %d", s, e)
		}
	}
	wantAll(t, r, "10.0.0.0/8", "10.1.0.0/16", "10.1.2.3/32")
}

// Each of three that lie within each other is taken, and the others stay.
func TestDropLeavesTheOthers(t *testing.T) {
	texts := []string{"10.0.0.0/8", "10.1.0.0/16", "10.1.2.3/32"}
	for i, s := range texts {
		r := table(t, texts...)
		if e := r.Drop(prefix(t, s)); e != api.OK {
			t.Errorf("Drop of %s is %d", s, e)
		}
		if e := r.Drop(prefix(t, s)); e != api.ErrNone {
			t.Errorf("a second Drop of %s is %d", s, e)
		}
		wantAll(t, r, slices.Delete(slices.Clone(texts), i, i+1)...)
		want := 2
		if i == 2 {
			want = 1
		}
		wantFind(t, r, address(t, "10.1.2.3"), 100+want, prefix(t, texts[want]), true)
		if e := r.Add(prefix(t, s), -7); e != api.OK {
			t.Errorf("behind its Drop Add of %s is %d", s, e)
		}
		wantFind(t, r, prefix(t, s).Addr+uint32(1-i/2), -7, prefix(t, s), true)
		wantAll(t, r, texts...)
	}
}

// What is dropped leaves nothing behind.
func TestDropOfAllLeavesNoNode(t *testing.T) {
	r := full(t)
	for i := range 64 {
		if e := r.Drop(api.Prefix{Addr: uint32(i * 37 % 64), Bits: 32}); e != api.OK {
			t.Errorf("Drop is %d", e)
		}
	}
	if *r != (Table{}) {
		t.Errorf("an emptied table is %v", *r)
	}
}

func TestTheOrderOfAll(t *testing.T) {
	want := []string{"0.0.0.0/0", "0.0.0.0/1", "0.0.0.0/8", "0.0.0.0/31", "0.0.0.0/32", "0.0.0.1/32", "0.0.0.2/31",
		"10.0.0.0/7", "10.0.0.0/8", "10.0.0.0/32", "10.0.0.1/32", "10.128.0.0/9", "10.128.0.0/10", "11.0.0.0/8",
		"127.255.255.255/32", "128.0.0.0/1", "128.0.0.0/2", "128.0.0.0/32", "192.0.0.0/2", "255.255.255.254/31",
		"255.255.255.254/32", "255.255.255.255/32"}
	for _, step := range []int{1, 3, 5, 7, 9, 13, 17, 19, 21} {
		r := New()
		for i := range want {
			if e := r.Add(prefix(t, want[i*step%len(want)]), -i); e != api.OK {
				t.Fatalf("Add is %d", e)
			}
		}
		wantAll(t, r, want...)
	}
}

// P2: a list that was answered, its spare room included, is the caller's own.
func TestAllIsNewMemory(t *testing.T) {
	r := table(t, "10.0.0.0/8", "0.0.0.0/0", "10.1.0.0/16")
	want := []string{"0.0.0.0/0", "10.0.0.0/8", "10.1.0.0/16"}
	first := r.All()
	fill := func(p api.Prefix) {
		room := first[:cap(first)]
		for i := range room {
			room[i] = p
		}
	}
	fill(api.Prefix{Addr: 7, Bits: 7})
	wantAll(t, r, want...)
	second := r.All()
	kept := slices.Clone(second)
	fill(api.Prefix{Addr: 9, Bits: 9})
	if !slices.Equal(second, kept) {
		t.Errorf("two lists share memory: %v", second)
	}
	r.Drop(api.Prefix{})
	r.Add(api.Prefix{Bits: 32}, 7)
	if !slices.Equal(second, kept) {
		t.Errorf("a list changes with its table: %v", second)
	}
	wantFind(t, r, 10<<24, 100, prefix(t, "10.0.0.0/8"), true)
}

// P2: tables have nothing in common.
func TestTwoTables(t *testing.T) {
	r, s := table(t, "10.0.0.0/8", "10.1.0.0/16"), New()
	wantAll(t, s)
	wantFind(t, s, 10<<24, 0, api.Prefix{}, false)
	if e := s.Add(prefix(t, "10.0.0.0/8"), 7); e != api.OK {
		t.Errorf("Add to another table is %d", e)
	}
	if e := s.Drop(prefix(t, "10.1.0.0/16")); e != api.ErrNone {
		t.Errorf("Drop from another table is %d", e)
	}
	wantFind(t, s, 10<<24, 7, prefix(t, "10.0.0.0/8"), true)
	wantFind(t, r, 10<<24, 100, prefix(t, "10.0.0.0/8"), true)
	wantAll(t, r, "10.0.0.0/8", "10.1.0.0/16")
	full(t)
	if e := s.Add(api.Prefix{}, 7); e != api.OK {
		t.Errorf("beside a full table Add is %d", e)
	}
}

// P2: Find and All change nothing, however often they are asked.
func TestAskingChangesNothing(t *testing.T) {
	r := table(t, "10.0.0.0/8", "10.1.0.0/16")
	for range 3 {
		for _, a := range ends() {
			r.Find(a)
		}
		wantFind(t, r, 10<<24, 100, prefix(t, "10.0.0.0/8"), true)
		wantAll(t, r, "10.0.0.0/8", "10.1.0.0/16")
	}
}

// lot draws numbers, the same ones each time, by xorshift.
type lot uint64

func (l *lot) below(n int) int {
	x := *l
	x ^= x << 13
	x ^= x >> 7
	x ^= x << 17
	*l = x
	return int(uint64(x) >> 1 % uint64(n))
}

// drawn is a prefix near the others: its bits are those of one of a few
// addresses, so that many lie within each other; now and then it is a wrong one.
func (l *lot) drawn() api.Prefix {
	list := ends()
	a, bits := list[l.below(len(list))], l.below(33)
	switch l.below(20) {
	case 0:
		return api.Prefix{Addr: a, Bits: l.below(80) - 20}
	case 1:
		a ^= 1 << l.below(32)
	}
	return api.Prefix{Addr: uint32(int(a) >> (32 - bits) << (32 - bits)), Bits: bits}
}

func (l *lot) address() uint32 {
	list := ends()
	return list[l.below(len(list))] ^ uint32(l.below(2))<<l.below(32)
}

// Many calls, each held against the slow table, so that it is now fuller, now
// emptier, and full for a while.
func TestManyCalls(t *testing.T) {
	seen := map[api.Errno]int{}
	for seed := range 40 {
		l := lot(seed*7919 + 1)
		r, s := New(), &slow{}
		for i := range 1500 {
			p := l.drawn()
			got, want := api.OK, api.OK
			if l.below(10) < 3+5*(i/300%2) {
				got, want = r.Drop(p), s.drop(p)
			} else {
				via := l.below(9) - 4
				got, want = r.Add(p, via), s.add(p, via)
			}
			if got != want {
				t.Fatalf("seed %d, call %d, of %v: %d, not %d", seed, i, p, got, want)
			}
			seen[got]++
			if got, want := r.All(), s.all(); !slices.Equal(got, want) {
				t.Fatalf("seed %d, call %d: All is %v, not %v", seed, i, got, want)
			}
			for range 4 {
				a := l.address()
				via, p, found := s.find(a)
				wantFind(t, r, a, via, p, found)
			}
		}
	}
	for _, e := range []api.Errno{api.OK, api.ErrArg, api.ErrForm, api.ErrTwice, api.ErrFull, api.ErrNone} {
		if seen[e] == 0 {
			t.Errorf("no call came to %d", e)
		}
	}
}
