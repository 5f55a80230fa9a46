package ports

import (
	"math"
	"math/big"
	"slices"
	"testing"

	"packetboat/api"
)

const (
	tcp   = 6
	udp   = 17
	first = 49152 // of the 64 ports that are picked
	last  = 49215
)

// end is an address and a port.
func end(addr uint32, port int) api.End {
	return api.End{Addr: addr, Port: port}
}

// one is the Bound that most of the others here differ from: a port of one
// address, for whoever is at the other side.
func one() api.Bound {
	return api.Bound{Proto: tcp, Local: end(1, 80), Owner: 5}
}

// joined is a Bound for just one other side.
func joined() api.Bound {
	return api.Bound{Proto: tcp, Local: end(1, 80), Remote: end(9, 9), Owner: 7}
}

// with is b, changed.
func with(b api.Bound, change func(b *api.Bound)) api.Bound {
	change(&b)
	return b
}

// wide is b with all addresses.
func wide(b api.Bound) api.Bound {
	b.Local.Addr = 0
	return b
}

// shared is b with Share.
func shared(b api.Bound) api.Bound {
	b.Share = true
	return b
}

// of is b as another owner's.
func of(owner int, b api.Bound) api.Bound {
	b.Owner = owner
	return b
}

// at is b with another port.
func at(port int, b api.Bound) api.Bound {
	b.Local.Port = port
	return b
}

// table has the list.
func table(t *testing.T, list ...api.Bound) *Table {
	t.Helper()
	p := New()
	for _, b := range list {
		wantBind(t, p, b, api.OK)
	}
	return p
}

// rows are many that don't clash, one a port from the port from on; their
// owners are 100 and so on.
func rows(from, many int) []api.Bound {
	var list []api.Bound
	for i := range many {
		list = append(list, api.Bound{Proto: tcp, Local: end(1, from+i), Owner: 100 + i})
	}
	return list
}

// laid is a table with the list, as no calls make it where that has more than
// there may be: a Pick finds no port only if somebody has all 64 of them.
func laid(list []api.Bound) *Table {
	return &Table{there: slices.Clone(list)}
}

func wantBind(t *testing.T, p *Table, b api.Bound, want api.Errno) {
	t.Helper()
	if e := p.Bind(b); e != want {
		t.Errorf("Bind of %+v is %d, not %d", b, e, want)
	}
}

func wantPick(t *testing.T, p *Table, b api.Bound, seed, port int, want api.Errno) {
	t.Helper()
	if n, e := p.Pick(b, seed); n != port || e != want {
		t.Errorf("Pick of %+v, %d is %d, %d, not %d, %d", b, seed, n, e, port, want)
	}
}

func wantDrop(t *testing.T, p *Table, owner int, want api.Errno) {
	t.Helper()
	if e := p.Drop(owner); e != want {
		t.Errorf("Drop of %d is %d, not %d", owner, e, want)
	}
}

// wantFind asks for somebody's port.
func wantFind(t *testing.T, p *Table, proto int, local, remote api.End, n uint64, owner int) {
	t.Helper()
	if o, is := p.Find(proto, local, remote, n); o != owner || !is {
		t.Errorf("Find of %d, %v, %v, %d is %d, %t, not %d", proto, local, remote, n, o, is, owner)
	}
}

// wantNobody asks for a port that nobody has.
func wantNobody(t *testing.T, p *Table, proto int, local, remote api.End) {
	t.Helper()
	for _, n := range []uint64{0, 1, 2, math.MaxUint64} {
		if o, is := p.Find(proto, local, remote, n); o != 0 || is {
			t.Errorf("Find of %d, %v, %v, %d is %d, %t, not 0, false", proto, local, remote, n, o, is)
		}
	}
}

func wantAll(t *testing.T, p *Table, want ...api.Bound) {
	t.Helper()
	if got := p.All(); !slices.Equal(got, want) {
		t.Errorf("All is %+v, not %+v", got, want)
	}
}

func TestAnEmptyTable(t *testing.T) {
	p := New()
	wantAll(t, p)
	wantNobody(t, p, tcp, end(1, 80), end(9, 9))
	wantNobody(t, p, udp, end(0, 0), end(0, 0))
	for _, owner := range []int{0, 1, -1, math.MinInt, math.MaxInt} {
		wantDrop(t, p, owner, api.ErrNone)
	}
	wantAll(t, p)
}

// named is a Bound, and what there is to say of it.
type named struct {
	name string
	b    api.Bound
}

// wrong are Bounds with one fault each, whatever their Port of Local.
func wrong() []named {
	list := []named{
		{"a Remote of Port 0 with an Addr", with(one(), func(b *api.Bound) { b.Remote.Addr = 9 })},
		{"a Remote of Port 0 with the Addr 1", with(one(), func(b *api.Bound) { b.Remote.Addr = 1 })},
		{"all addresses, and a Remote of Port 0 with an Addr", wide(with(one(), func(b *api.Bound) { b.Remote.Addr = 9 }))},
		{"all addresses for one other side", wide(joined())},
		{"all addresses for a port of any address", wide(with(joined(), func(b *api.Bound) { b.Remote.Addr = 0 }))},
		{"all addresses for one other side, shared", shared(wide(joined()))},
	}
	for _, proto := range []int{0, -6, -1, 1, 5, 7, 16, 18, 6 + 17, 6 + 256, 17 + 1<<32, math.MinInt, math.MaxInt} {
		list = append(list, named{"a Proto", with(one(), func(b *api.Bound) { b.Proto = proto })})
	}
	for _, port := range []int{-1, -65535, 65536, 65536 + 9, 9 + 1<<32, math.MinInt, math.MaxInt} {
		list = append(list, named{"a Port of Remote", with(joined(), func(b *api.Bound) { b.Remote.Port = port })})
	}
	return list
}

// wrongPorts are Bounds with a Port of Local that there isn't.
func wrongPorts() []named {
	var list []named
	for _, port := range []int{0, -1, -80, 65536, 65536 + 80, 80 + 1<<32, math.MinInt, math.MaxInt} {
		list = append(list, named{"a Port of Local", at(port, one())}, named{"a Port of Local", at(port, joined())})
	}
	return list
}

// P39: each ground of ErrArg by itself, in tables of all kinds.
func TestBindOfWhatIsWrong(t *testing.T) {
	tables := map[string][]api.Bound{
		"empty": nil,
		"some":  {one(), joined()},
		"full":  rows(1000, 32),
	}
	for name, list := range tables {
		p := table(t, list...)
		for _, c := range append(wrong(), wrongPorts()...) {
			if e := p.Bind(c.b); e != api.ErrArg {
				t.Errorf("%s: Bind of %s, %+v, is %d", name, c.name, c.b, e)
			}
			wantAll(t, p, list...)
		}
	}
}

// P39: the last ones that are let in, each alone.
func TestBindAtTheEdges(t *testing.T) {
	remote := func(r api.End) api.Bound { return with(joined(), func(b *api.Bound) { b.Remote = r }) }
	cases := []named{
		{"Port 1", at(1, one())},
		{"Port 65535", at(65535, one())},
		{"Port 1 of all addresses", at(1, wide(one()))},
		{"Port 65535 of all addresses", at(65535, wide(one()))},
		{"Proto 17", with(one(), func(b *api.Bound) { b.Proto = udp })},
		{"Proto 17, joined", with(joined(), func(b *api.Bound) { b.Proto = udp })},
		{"Port 1 of Remote", remote(end(9, 1))},
		{"Port 65535 of Remote", remote(end(9, 65535))},
		{"a Port of Remote, with no Addr", remote(end(0, 9))},
		{"the last Addr of all", with(joined(), func(b *api.Bound) { b.Local.Addr, b.Remote.Addr = 1<<32-1, 1<<32-1 })},
		{"Remote as Local", remote(end(1, 80))},
		{"shared", shared(one())},
		{"shared, of all addresses", shared(wide(one()))},
		{"shared, joined", shared(joined())},
		{"Owner 0", of(0, one())},
		{"Owner below 0", of(math.MinInt, one())},
		{"the greatest Owner", of(math.MaxInt, one())},
	}
	for _, c := range cases {
		p := New()
		if e := p.Bind(c.b); e != api.OK {
			t.Errorf("%s: Bind of %+v is %d", c.name, c.b, e)
		}
		wantAll(t, p, c.b)
		local := c.b.Local
		if local.Addr == 0 {
			local.Addr = 77
		}
		wantFind(t, p, c.b.Proto, local, c.b.Remote, 1, c.b.Owner)
	}
}

// clashCase is two Bounds, and whether they clash.
type clashCase struct {
	name string
	a, b api.Bound
	want bool
}

// clashCases has each part of what CLASH means changed by itself.
func clashCases() []clashCase {
	a, j := one(), joined()
	sa, sj := shared(a), shared(j)
	far := func(addr uint32, port int, b api.Bound) api.Bound {
		b.Remote = end(addr, port)
		return b
	}
	home := func(addr uint32, b api.Bound) api.Bound {
		b.Local.Addr = addr
		return b
	}
	proto := func(b api.Bound) api.Bound {
		b.Proto = udp
		return b
	}
	return []clashCase{
		{"just the same", a, a, true},
		{"the same, of another owner", a, of(6, a), true},
		{"another Proto", a, proto(a), false},
		{"both of Proto 17", proto(a), proto(a), true},
		{"another Port", a, at(81, a), false},
		{"another Addr", a, home(2, a), false},
		{"all addresses, and one", a, wide(a), true},
		{"all addresses, twice", wide(a), wide(a), true},
		{"all addresses, and one, of another Proto", a, proto(wide(a)), false},
		{"all addresses, and one, of another Port", a, at(81, wide(a)), false},
		{"a Remote, and none", a, j, false},
		{"all addresses, and a Remote", wide(a), j, false},
		{"the same Remote", j, of(6, j), true},
		{"another Addr of Remote", j, far(8, 9, j), false},
		{"another Port of Remote", j, far(9, 8, j), false},
		{"Remote the other way round", far(8, 9, j), far(9, 8, j), false},
		{"the same Remote, of another Addr", j, home(2, j), false},
		{"the same Remote, of another Port", j, at(81, j), false},
		{"the same Remote, of another Proto", j, proto(j), false},
		{"a Remote without Addr, twice", far(0, 9, j), far(0, 9, j), true},
		{"both share", sa, of(6, sa), false},
		{"both share, of Proto 17", proto(sa), proto(sa), false},
		{"one shares", a, sa, true},
		{"both share all addresses", wide(sa), wide(sa), false},
		{"both share, all addresses on one side", sa, wide(sa), true},
		{"one shares all addresses", wide(a), wide(sa), true},
		{"one shares, all addresses on its side", a, wide(sa), true},
		{"one shares, all addresses on the other side", wide(a), sa, true},
		{"both share, another Addr", sa, home(2, sa), false},
		{"both share, another Port", sa, at(81, sa), false},
		{"both share, the same Remote", sj, of(6, sj), true},
		{"one shares, the same Remote", j, sj, true},
		{"both share, another Remote", sj, far(8, 9, sj), false},
		{"both share, a Remote, and none", sa, sj, false},
		{"both share, the same Remote without Addr", far(0, 9, sj), far(0, 9, sj), true},
	}
}

// P39: what CLASHES, in whichever order, alone and behind others.
func TestClash(t *testing.T) {
	for _, c := range clashCases() {
		for _, two := range [][2]api.Bound{{c.a, c.b}, {c.b, c.a}} {
			want, all := api.OK, two[:]
			if c.want {
				want, all = api.ErrUsed, two[:1]
			}
			p := table(t, two[0])
			if e := p.Bind(two[1]); e != want {
				t.Errorf("%s: Bind of %+v beside %+v is %d, not %d", c.name, two[1], two[0], e, want)
			}
			wantAll(t, p, all...)
			many := rows(1000, 20)
			p = table(t, slices.Concat(many[:10], two[:1], many[10:])...)
			if e := p.Bind(two[1]); e != want {
				t.Errorf("%s: Bind of %+v among others is %d, not %d", c.name, two[1], e, want)
			}
		}
	}
}

// P39: one that shares with one clashes with another all the same.
func TestClashWithOneOfSeveral(t *testing.T) {
	list := []api.Bound{shared(one()), of(6, shared(one())), with(one(), func(b *api.Bound) { b.Local.Addr = 2 })}
	p := table(t, list...)
	wantBind(t, p, of(8, shared(one())), api.OK)
	wantDrop(t, p, 8, api.OK)
	wantBind(t, p, one(), api.ErrUsed)
	wantBind(t, p, shared(wide(one())), api.ErrUsed)
	wantBind(t, p, shared(list[2]), api.ErrUsed)
	wantAll(t, p, list...)
}

// P39: an error is told ahead of another one.
func TestTheOrderOfErrors(t *testing.T) {
	// What is wrong can clash in one way only: its Addr is 0, and has a Remote.
	p := table(t, joined())
	wantBind(t, p, wide(joined()), api.ErrArg)
	wantBind(t, p, joined(), api.ErrUsed)
	list := append(rows(1000, 31), joined())
	p = table(t, list...)
	wantBind(t, p, wide(joined()), api.ErrArg)
	wantBind(t, p, at(0, one()), api.ErrArg)
	wantBind(t, p, joined(), api.ErrUsed)
	wantBind(t, p, at(1030, one()), api.ErrUsed)
	wantBind(t, p, at(1031, one()), api.ErrFull)
	wantAll(t, p, list...)
}

// P39: 31, 32 and 33 that are there.
func TestAFullTable(t *testing.T) {
	list := rows(1000, 33)
	p := table(t, list[:31]...)
	wantAll(t, p, list[:31]...)
	wantBind(t, p, list[31], api.OK)
	wantAll(t, p, list[:32]...)
	for range 3 {
		wantBind(t, p, list[32], api.ErrFull)
		wantBind(t, p, joined(), api.ErrFull)
		wantBind(t, p, with(list[32], func(b *api.Bound) { b.Proto = udp }), api.ErrFull)
	}
	wantAll(t, p, list[:32]...)
	wantNobody(t, p, tcp, list[32].Local, end(9, 9))
	wantDrop(t, p, 103, api.OK)
	wantBind(t, p, list[32], api.OK)
	wantAll(t, p, slices.Concat(list[:3], list[4:33])...)
	wantBind(t, p, list[3], api.ErrFull)
}

// P39: those that share take room as all others do.
func TestAFullTableOfOnePort(t *testing.T) {
	p := New()
	for i := range 32 {
		wantBind(t, p, of(i, shared(one())), api.OK)
	}
	wantBind(t, p, of(32, shared(one())), api.ErrFull)
	wantBind(t, p, of(32, one()), api.ErrUsed)
	for n := range uint64(70) {
		wantFind(t, p, tcp, end(1, 80), end(9, 9), n, int(n%32))
	}
}

// P39: what was refused takes no room, however often.
func TestRefusalsTakeNoRoom(t *testing.T) {
	p := table(t, one())
	for range 40 {
		wantBind(t, p, of(8, one()), api.ErrUsed)
		wantBind(t, p, at(0, one()), api.ErrArg)
		wantPick(t, p, with(one(), func(b *api.Bound) { b.Proto = 7 }), 3, 0, api.ErrArg)
	}
	wantAll(t, p, one())
	wantDrop(t, p, 8, api.ErrNone)
	list := rows(1000, 31)
	for _, b := range list {
		wantBind(t, p, b, api.OK)
	}
	wantAll(t, p, append([]api.Bound{one()}, list...)...)
}

// seeds are some, and the number that is left of each when it is divided by 64.
func seeds() map[int]int {
	return map[int]int{
		0: 0, 1: 1, 31: 31, 32: 32, 62: 62, 63: 63, 64: 0, 65: 1, 127: 63, 128: 0, 49152: 0, 49153: 1,
		-1: 63, -2: 62, -62: 2, -63: 1, -64: 0, -65: 63, -127: 1, -128: 0, -129: 63,
		1 << 32: 0, 1<<32 + 5: 5, -1 << 32: 0, -1<<32 - 5: 59,
		math.MaxInt: 63, math.MaxInt - 1: 62, math.MaxInt - 63: 0, math.MaxInt - 64: 63,
		math.MinInt: 0, math.MinInt + 1: 1, math.MinInt + 63: 63, math.MinInt + 64: 0,
	}
}

// P40: which port comes first, and the next ones, up to 32, going round.
func TestPickBySeed(t *testing.T) {
	for seed, number := range seeds() {
		p := New()
		var want []api.Bound
		for i := range 32 {
			port := first + (number+i)%64
			b := of(200+i, one())
			wantPick(t, p, b, seed, port, api.OK)
			want = append(want, at(port, b))
		}
		wantPick(t, p, one(), seed, 0, api.ErrFull)
		wantAll(t, p, want...)
	}
}

// P40: each seed of 64 by itself.
func TestPickOfEachNumber(t *testing.T) {
	for seed := range 64 {
		wantPick(t, New(), one(), seed, first+seed, api.OK)
		wantPick(t, New(), one(), seed-64, first+seed, api.OK)
		wantPick(t, New(), one(), seed+640, first+seed, api.OK)
	}
}

// P40: behind the last port comes the first one, and only those 64 do.
func TestPickGoesRound(t *testing.T) {
	p := table(t, at(last, one()))
	wantPick(t, p, of(6, one()), 63, first, api.OK)
	wantPick(t, p, of(7, one()), 63, first+1, api.OK)
	wantPick(t, p, of(8, one()), 62, last-1, api.OK)
	wantPick(t, p, of(9, one()), 62, first+2, api.OK)
	wantPick(t, p, of(10, one()), -1, first+3, api.OK)
	wantAll(t, p, at(last, one()), at(first, of(6, one())), at(first+1, of(7, one())), at(last-1, of(8, one())),
		at(first+2, of(9, one())), at(first+3, of(10, one())))
}

// P40: of what is there only what clashes is passed over.
func TestPickAmongOthers(t *testing.T) {
	for _, c := range clashCases() {
		for _, two := range [][2]api.Bound{{c.a, c.b}, {c.b, c.a}} {
			if two[0].Local.Port != two[1].Local.Port {
				continue
			}
			there, port := at(first+10, two[0]), first+10
			if c.want {
				port++
			}
			p := table(t, there)
			if n, e := p.Pick(two[1], 10); n != port || e != api.OK {
				t.Errorf("%s: Pick of %+v beside %+v is %d, %d, not %d", c.name, two[1], there, n, e, port)
			}
			wantAll(t, p, there, at(port, two[1]))
		}
	}
}

// P40: ports that several have, and gaps between those that somebody has.
func TestPickOfWhatIsFree(t *testing.T) {
	var list []api.Bound
	for _, i := range []int{5, 6, 7, 9, 63, 0, 2} {
		list = append(list, at(first+i, of(i, one())))
	}
	p := table(t, list...)
	for _, c := range []struct{ seed, number int }{{5, 8}, {6, 10}, {62, 62}, {62, 1}, {62, 3}, {0, 4}, {8, 11}} {
		wantPick(t, p, of(300, one()), c.seed, first+c.number, api.OK)
	}
	wantDrop(t, p, 6, api.OK)
	wantPick(t, p, of(6, one()), 5, first+6, api.OK)

	p = table(t, at(first, shared(one())), at(first+1, one()), at(first+2, shared(wide(one()))))
	wantPick(t, p, of(6, shared(one())), 0, first, api.OK)
	wantPick(t, p, of(7, shared(one())), 0, first, api.OK)
	wantPick(t, p, of(8, one()), 0, first+3, api.OK)
	wantPick(t, p, of(9, shared(one())), 1, first+4, api.OK)
	wantPick(t, p, of(10, shared(wide(one()))), 0, first+2, api.OK)
}

// P40: what has been picked is there as any other one, with all that it is.
func TestWhatIsPicked(t *testing.T) {
	p := table(t, one())
	all := []api.Bound{one()}
	for i, b := range []api.Bound{
		of(6, one()),
		of(7, shared(one())),
		of(0, with(one(), func(b *api.Bound) { b.Proto = udp })),
		of(-3, wide(one())),
		joined(),
		shared(joined()),
		of(5, shared(wide(one()))),
	} {
		wantPick(t, p, b, 7*i, first+7*i, api.OK)
		all = append(all, at(first+7*i, b))
		wantAll(t, p, all...)
		local := all[i+1].Local
		if local.Addr == 0 {
			local.Addr = 1
		}
		wantFind(t, p, b.Proto, local, b.Remote, 0, b.Owner)
		wantBind(t, p, at(first+7*i, with(b, func(b *api.Bound) { b.Share = false })), api.ErrUsed)
	}
}

// P40: Local's own Port is of no matter; all else that is wrong is.
func TestPickOfWhatIsWrong(t *testing.T) {
	for _, port := range []int{0, -1, 1, 80, 65535, 65536, first, last, math.MinInt, math.MaxInt} {
		p := table(t, at(first+1, one()))
		wantPick(t, p, at(port, one()), 1, first+2, api.OK)
		wantAll(t, p, at(first+1, one()), at(first+2, one()))
	}
	taken := rows(first, 64)
	for _, list := range [][]api.Bound{nil, rows(1000, 32), taken[:32], taken} {
		p := laid(list)
		for _, c := range wrong() {
			for _, port := range []int{0, 80, first, 65536} {
				wantPick(t, p, at(port, c.b), 3, 0, api.ErrArg)
			}
		}
		wantAll(t, p, list...)
	}
	// This one would clash as well.
	p := laid(nil)
	for i := range 64 {
		p.there = append(p.there, at(first+i, joined()))
	}
	wantPick(t, p, wide(joined()), 0, 0, api.ErrArg)
	wantPick(t, p, joined(), 0, 0, api.ErrUsed)
}

// P40: a full table, in which a port is free.
func TestPickInAFullTable(t *testing.T) {
	for _, list := range [][]api.Bound{rows(1000, 32), rows(first, 32), rows(first+32, 32), rows(first+20, 32)} {
		p := table(t, list...)
		for seed := range seeds() {
			wantPick(t, p, one(), seed, 0, api.ErrFull)
			wantPick(t, p, shared(wide(one())), seed, 0, api.ErrFull)
			wantPick(t, p, joined(), seed, 0, api.ErrFull)
		}
		wantAll(t, p, list...)
		wantDrop(t, p, list[4].Owner, api.OK)
		number := (list[31].Local.Port + 1 - first) & 63
		wantPick(t, p, one(), number, first+number, api.OK)
		wantPick(t, p, one(), number, 0, api.ErrFull)
	}
}

// P40: nothing is free. By calls no table comes to that, as 32 that are there
// have 32 ports at most: so these are laid, of 64, and of more.
func TestPickWhereAllAreTaken(t *testing.T) {
	taken := rows(first, 64)
	for _, list := range [][]api.Bound{taken, append(rows(1000, 32), taken...)} {
		p := laid(list)
		for seed := range seeds() {
			wantPick(t, p, one(), seed, 0, api.ErrUsed)
			wantPick(t, p, shared(one()), seed, 0, api.ErrUsed)
			wantPick(t, p, wide(one()), seed, 0, api.ErrUsed)
			wantPick(t, p, with(one(), func(b *api.Bound) { b.Proto = udp }), seed, 0, api.ErrFull)
			wantPick(t, p, joined(), seed, 0, api.ErrFull)
		}
		wantAll(t, p, list...)
	}
	// With the last one free it is full, and no more than that.
	for free := range 64 {
		list := slices.Delete(rows(first, 64), free, free+1)
		p := laid(list)
		wantPick(t, p, one(), free, 0, api.ErrFull)
		wantPick(t, p, one(), free+1, 0, api.ErrFull)
		wantAll(t, p, list...)
	}
}

// P40: an Owner with none, with one, and with several among others.
func TestDrop(t *testing.T) {
	list := rows(1000, 9)
	for i, owner := range []int{1, 2, 1, 3, 0, 1, 2, 0, 1} {
		list[i].Owner = owner
	}
	cases := []struct {
		owner int
		left  []int
	}{
		{3, []int{0, 1, 2, 4, 5, 6, 7, 8}},
		{2, []int{0, 2, 3, 4, 5, 7, 8}},
		{1, []int{1, 3, 4, 6, 7}},
		{0, []int{0, 1, 2, 3, 5, 6, 8}},
	}
	for _, c := range cases {
		p := table(t, list...)
		for _, owner := range []int{-1, 4, 100, math.MinInt, math.MaxInt, -c.owner - 10, c.owner + 1<<32} {
			wantDrop(t, p, owner, api.ErrNone)
		}
		wantAll(t, p, list...)
		wantDrop(t, p, c.owner, api.OK)
		var left []api.Bound
		for _, i := range c.left {
			left = append(left, list[i])
		}
		wantAll(t, p, left...)
		wantDrop(t, p, c.owner, api.ErrNone)
		wantAll(t, p, left...)
		for i, b := range list {
			if b.Owner == c.owner {
				wantNobody(t, p, tcp, b.Local, end(9, 9))
				wantBind(t, p, b, api.OK)
				left = append(left, list[i])
			}
		}
		wantAll(t, p, left...)
	}
}

// P40: one owner may have ports of both Protos, shared ones, and joined ones.
func TestDropOfAllKinds(t *testing.T) {
	mine := []api.Bound{one(), of(5, joined()), with(one(), func(b *api.Bound) { b.Proto = udp }), at(81, shared(wide(one())))}
	others := []api.Bound{at(82, of(6, one())), at(81, of(6, shared(wide(one())))), of(-5, with(joined(), func(b *api.Bound) { b.Remote.Port = 8 }))}
	p := table(t, mine[0], others[0], mine[1], mine[2], others[1], mine[3], others[2])
	wantDrop(t, p, 5, api.OK)
	wantAll(t, p, others...)
	wantDrop(t, p, 6, api.OK)
	wantDrop(t, p, -5, api.OK)
	wantAll(t, p)
	for _, b := range mine {
		wantBind(t, p, b, api.OK)
	}
	wantAll(t, p, mine...)
}

// P41: the three kinds of BEST, and each ahead of the next.
func TestFindTakesTheBest(t *testing.T) {
	w, a, j := of(1, wide(one())), of(2, one()), of(3, joined())
	ask := func(list []api.Bound, want int) {
		t.Helper()
		for _, n := range []uint64{0, 1, 2, math.MaxUint64} {
			wantFind(t, laid(list), tcp, end(1, 80), end(9, 9), n, want)
		}
	}
	// By calls one of all addresses and one of this address are there together
	// only if one of both has a Remote: the others are laid.
	ask([]api.Bound{w}, 1)
	ask([]api.Bound{a}, 2)
	ask([]api.Bound{j}, 3)
	ask([]api.Bound{w, a}, 2)
	ask([]api.Bound{a, w}, 2)
	ask([]api.Bound{w, j}, 3)
	ask([]api.Bound{j, w}, 3)
	ask([]api.Bound{a, j}, 3)
	ask([]api.Bound{j, a}, 3)
	ask([]api.Bound{w, a, j}, 3)
	ask([]api.Bound{j, a, w}, 3)
	ask([]api.Bound{a, j, w}, 3)

	p := table(t, shared(w), shared(of(4, w)), j)
	wantFind(t, p, tcp, end(1, 80), end(9, 9), 1, 3)
	wantFind(t, p, tcp, end(1, 80), end(9, 8), 1, 4)
	wantFind(t, p, tcp, end(1, 80), end(8, 9), 0, 1)
	wantFind(t, p, tcp, end(2, 80), end(9, 9), 1, 4)
	wantDrop(t, p, 3, api.OK)
	wantFind(t, p, tcp, end(1, 80), end(9, 9), 1, 4)
	wantDrop(t, p, 4, api.OK)
	wantFind(t, p, tcp, end(1, 80), end(9, 9), 1, 1)
	wantDrop(t, p, 1, api.OK)
	wantNobody(t, p, tcp, end(1, 80), end(9, 9))
}

// P41: what doesn't come to somebody's port.
func TestFindOfNobody(t *testing.T) {
	cases := []struct {
		name   string
		b      api.Bound
		proto  int
		local  api.End
		remote api.End
	}{
		{"another Proto", one(), udp, end(1, 80), end(9, 9)},
		{"another Proto of all addresses", wide(one()), udp, end(1, 80), end(9, 9)},
		{"another Proto, joined", joined(), udp, end(1, 80), end(9, 9)},
		{"no Proto", one(), 0, end(1, 80), end(9, 9)},
		{"a Proto that there isn't", one(), math.MinInt, end(1, 80), end(9, 9)},
		{"another Port", one(), tcp, end(1, 81), end(9, 9)},
		{"another Port of all addresses", wide(one()), tcp, end(1, 81), end(9, 9)},
		{"another Port, joined", joined(), tcp, end(1, 81), end(9, 9)},
		{"Port 0", one(), tcp, end(1, 0), end(9, 9)},
		{"a Port that there isn't", one(), tcp, end(1, 80+65536), end(9, 9)},
		{"a Port below 0", one(), tcp, end(1, math.MinInt), end(9, 9)},
		{"another Addr", one(), tcp, end(2, 80), end(9, 9)},
		{"no Addr", one(), tcp, end(0, 80), end(9, 9)},
		{"another Addr, joined", joined(), tcp, end(2, 80), end(9, 9)},
		{"no Addr, joined", joined(), tcp, end(0, 80), end(9, 9)},
		{"another Addr of Remote", joined(), tcp, end(1, 80), end(8, 9)},
		{"another Port of Remote", joined(), tcp, end(1, 80), end(9, 8)},
		{"no Remote", joined(), tcp, end(1, 80), end(0, 0)},
		{"no Addr of Remote", joined(), tcp, end(1, 80), end(0, 9)},
		{"no Port of Remote", joined(), tcp, end(1, 80), end(9, 0)},
		{"both ends the other way round", joined(), tcp, end(9, 9), end(1, 80)},
	}
	for _, c := range cases {
		p := table(t, c.b)
		if o, is := p.Find(c.proto, c.local, c.remote, 0); o != 0 || is {
			t.Errorf("%s: Find is %d, %t", c.name, o, is)
		}
		wantNobody(t, p, c.proto, c.local, c.remote)
	}
}

// P41: from whomever something comes, who has nobody in particular has it.
func TestFindFromAnybody(t *testing.T) {
	for _, remote := range []api.End{{}, end(9, 9), end(9, 0), end(0, 9), end(1, 80), end(1<<32-1, 65535), end(9, -1), end(9, math.MaxInt)} {
		wantFind(t, table(t, one()), tcp, end(1, 80), remote, 0, 5)
		wantFind(t, table(t, wide(one())), tcp, end(1, 80), remote, 0, 5)
		wantFind(t, table(t, wide(one())), tcp, end(1<<32-1, 80), remote, 0, 5)
		wantFind(t, table(t, wide(one())), tcp, end(0, 80), remote, 0, 5)
	}
}

// P41: an Owner 0 is somebody.
func TestFindOfOwner0(t *testing.T) {
	for _, b := range []api.Bound{one(), wide(one()), joined()} {
		wantFind(t, table(t, of(0, b)), tcp, end(1, 80), end(9, 9), 0, 0)
		wantFind(t, table(t, of(-9, b)), tcp, end(1, 80), end(9, 9), 3, -9)
	}
}

// numbers are some, and what is left of each when it is divided by 3.
func numbers() map[uint64]int {
	return map[uint64]int{
		0: 0, 1: 1, 2: 2, 3: 0, 4: 1, 5: 2, 6: 0, 1 << 32: 1, 1<<32 + 1: 2,
		1<<63 - 1: 1, 1 << 63: 2, 1<<63 + 1: 0, math.MaxUint64 - 2: 1, math.MaxUint64 - 1: 2, math.MaxUint64: 0,
	}
}

// P41: of several the one with the number n, in the order in which they came,
// whatever else came between, and behind a Drop too.
func TestFindByNumber(t *testing.T) {
	for _, b := range []api.Bound{shared(one()), shared(wide(one()))} {
		p := table(t, of(7, b), at(81, of(1, b)), of(3, b), of(2, joined()), with(of(4, b), func(b *api.Bound) { b.Proto = udp }), of(5, b))
		want := func(owners ...int) {
			t.Helper()
			for n, left := range numbers() {
				wantFind(t, p, tcp, end(1, 80), end(8, 8), n, owners[left])
				wantFind(t, p, tcp, end(1, 80), end(9, 9), n, 2)
				wantFind(t, p, tcp, end(1, 81), end(9, 9), n, 1)
			}
		}
		want(7, 3, 5)
		wantDrop(t, p, 4, api.OK)
		want(7, 3, 5)
		wantDrop(t, p, 3, api.OK)
		for n := range uint64(9) {
			wantFind(t, p, tcp, end(1, 80), end(8, 8), n, []int{7, 5}[n%2])
		}
		wantBind(t, p, of(3, b), api.OK)
		want(7, 5, 3)
		wantDrop(t, p, 7, api.OK)
		wantBind(t, p, of(9, b), api.OK)
		want(5, 3, 9)
	}
}

// P41: an owner who has a port twice is counted twice.
func TestFindOfOneOwnerTwice(t *testing.T) {
	p := table(t, of(4, shared(one())), of(6, shared(one())), of(4, shared(one())))
	for n, left := range numbers() {
		wantFind(t, p, tcp, end(1, 80), end(9, 9), n, []int{4, 6, 4}[left])
	}
	wantDrop(t, p, 4, api.OK)
	wantFind(t, p, tcp, end(1, 80), end(9, 9), 2, 6)
}

// P2: a list that was answered, its spare room included, is the caller's own.
func TestAllIsNewMemory(t *testing.T) {
	list := rows(1000, 5)
	p := table(t, list...)
	got := p.All()
	for range 2 {
		room := got[:cap(got)]
		for i := range room {
			room[i] = at(7, of(99, one()))
		}
		wantAll(t, p, list...)
	}
	kept := p.All()
	wantDrop(t, p, 101, api.OK)
	wantBind(t, p, one(), api.OK)
	wantPick(t, p, one(), 5, first+5, api.OK)
	if !slices.Equal(kept, list) {
		t.Errorf("a list changes with its table: %+v", kept)
	}
	more := append(p.All(), joined())
	wantBind(t, p, at(99, one()), api.OK)
	if more[len(more)-1] != joined() {
		t.Errorf("a list shares its spare room with the table")
	}
	wantAll(t, p, list[0], list[2], list[3], list[4], one(), at(first+5, one()), at(99, one()))
}

// P2: tables have nothing in common.
func TestTwoTables(t *testing.T) {
	p, q := table(t, one()), New()
	wantAll(t, q)
	wantNobody(t, q, tcp, end(1, 80), end(9, 9))
	wantBind(t, q, of(6, one()), api.OK)
	wantDrop(t, q, 5, api.ErrNone)
	wantPick(t, q, of(6, one()), 0, first, api.OK)
	wantPick(t, p, one(), 0, first, api.OK)
	wantDrop(t, q, 6, api.OK)
	wantAll(t, p, one(), at(first, one()))
	wantAll(t, q)
}

// P2: Find and All change nothing, however often they are asked.
func TestAskingChangesNothing(t *testing.T) {
	p := table(t, shared(one()), of(6, shared(one())), joined())
	for range 3 {
		for n := range uint64(5) {
			wantFind(t, p, tcp, end(1, 80), end(8, 8), n, 5+int(n%2))
			wantNobody(t, p, udp, end(1, 80), end(8, 8))
		}
		wantAll(t, p, shared(one()), of(6, shared(one())), joined())
	}
}

// slow goes by the chapter's words in another way than Table does: it holds
// what is there against all 64 ports at once, counts down kinds of BEST, and
// divides by math/big.
type slow struct {
	rows []api.Bound
}

// left is what is left of n when it is divided by many, from 0 on.
func left(n *big.Int, many int) int {
	return int(new(big.Int).Mod(n, big.NewInt(int64(many))).Int64())
}

// among tells whether x is one of the numbers from low to high.
func among(x, low, high int) bool {
	return x >= low && x <= high
}

// slowWrong has the grounds of ErrArg in the chapter's order.
func slowWrong(b api.Bound) bool {
	grounds := []bool{
		!slices.Contains([]int{6, 17}, b.Proto),
		!among(b.Local.Port, 1, 65535),
		!among(b.Remote.Port, 0, 65535),
		b.Remote.Port == 0 && b.Remote.Addr != 0,
		b.Remote.Port != 0 && b.Local.Addr == 0,
	}
	return slices.Contains(grounds, true)
}

// slowClash lays what does not count of a over b, and sees whether they are
// the same then.
func slowClash(a, b api.Bound) bool {
	addrs := []uint32{a.Local.Addr, b.Local.Addr}
	shares := []bool{a.Share, b.Share}
	b.Local.Addr, b.Share, b.Owner = a.Local.Addr, a.Share, a.Owner
	if a != b {
		return false
	}
	same := addrs[0] == addrs[1]
	if same && !slices.Contains(shares, false) && a.Remote.Port == 0 {
		return false
	}
	return same || slices.Contains(addrs, 0)
}

func (s *slow) free(b api.Bound) bool {
	for _, other := range s.rows {
		if slowClash(b, other) {
			return false
		}
	}
	return true
}

func (s *slow) bind(b api.Bound) api.Errno {
	if slowWrong(b) {
		return api.ErrArg
	}
	if !s.free(b) {
		return api.ErrUsed
	}
	if len(s.rows) == 32 {
		return api.ErrFull
	}
	s.rows = append(s.rows, b)
	return api.OK
}

func (s *slow) pick(b api.Bound, seed int) (int, api.Errno) {
	if slowWrong(at(49152, b)) {
		return 0, api.ErrArg
	}
	from := left(big.NewInt(int64(seed)), 64)
	var ports []int
	for port := 49152 + from; port < 49152+64; port++ {
		ports = append(ports, port)
	}
	for port := 49152; port < 49152+from; port++ {
		ports = append(ports, port)
	}
	ports = slices.DeleteFunc(ports, func(port int) bool { return !s.free(at(port, b)) })
	if len(ports) == 0 {
		return 0, api.ErrUsed
	}
	if e := s.bind(at(ports[0], b)); e != api.OK {
		return 0, e
	}
	return ports[0], api.OK
}

func (s *slow) drop(owner int) api.Errno {
	var rest []api.Bound
	for _, b := range s.rows {
		if b.Owner != owner {
			rest = append(rest, b)
		}
	}
	if len(rest) == len(s.rows) {
		return api.ErrNone
	}
	s.rows = rest
	return api.OK
}

// slowKind is how closely b fits: 3 is BEST, 0 is not at all.
func slowKind(b api.Bound, proto int, local, remote api.End) int {
	switch {
	case b.Proto != proto || b.Local.Port != local.Port:
		return 0
	case b.Local.Addr == local.Addr && b.Remote.Addr == remote.Addr && b.Remote.Port == remote.Port:
		return 3
	case b.Local.Addr == local.Addr && b.Remote.Port == 0:
		return 2
	case b.Local.Addr == 0:
		return 1
	}
	return 0
}

func (s *slow) find(proto int, local, remote api.End, n uint64) (int, bool) {
	var kinds [4][]int
	for _, b := range s.rows {
		k := slowKind(b, proto, local, remote)
		kinds[k] = append(kinds[k], b.Owner)
	}
	for _, k := range []int{3, 2, 1} {
		if many := len(kinds[k]); many > 0 {
			return kinds[k][left(new(big.Int).SetUint64(n), many)], true
		}
	}
	return 0, false
}

// fewBounds are those of which all pairs are tried, and all that is asked.
func fewBounds() []api.Bound {
	var list []api.Bound
	for _, proto := range []int{tcp, udp, 7} {
		for _, local := range []api.End{{}, end(0, 80), end(1, 80), end(2, 80), end(1, 81), end(1, 65536)} {
			for _, remote := range []api.End{{}, end(9, 9), end(9, 8), end(0, 9), end(9, 0), end(1, 80)} {
				for _, share := range []bool{false, true} {
					list = append(list, api.Bound{Proto: proto, Local: local, Remote: remote, Share: share, Owner: 10 + len(list)})
				}
			}
		}
	}
	return list
}

// All pairs, bound one behind the other, and each asked for.
func TestAllPairs(t *testing.T) {
	list := fewBounds()
	for _, a := range list {
		for _, b := range list {
			p, s := New(), &slow{}
			for _, x := range []api.Bound{a, b} {
				if got, want := p.Bind(x), s.bind(x); got != want {
					t.Fatalf("of %+v and %+v: Bind is %d, not %d", a, b, got, want)
				}
			}
			for _, x := range []api.Bound{a, b} {
				for n := range uint64(2) {
					got, is := p.Find(x.Proto, x.Local, x.Remote, n)
					want, there := s.find(x.Proto, x.Local, x.Remote, n)
					if got != want || is != there {
						t.Fatalf("of %+v and %+v: Find of %+v is %d, %t, not %d, %t", a, b, x, got, is, want, there)
					}
				}
			}
			wantAll(t, p, s.rows...)
		}
	}
}

// lot draws the same numbers at each run.
type lot uint64

func (l *lot) draw(n int) int {
	*l ^= *l << 13
	*l ^= *l >> 7
	*l ^= *l << 17
	return int(uint64(*l) >> 1 % uint64(n))
}

// one of list is drawn.
func drawn[T any](l *lot, list ...T) T {
	return list[l.draw(len(list))]
}

// bound draws one of those that are near each other, seldom a wrong one.
func (l *lot) bound() api.Bound {
	b := api.Bound{
		Proto: drawn(l, tcp, tcp, tcp, udp),
		Local: end(drawn[uint32](l, 0, 1, 1, 2), drawn(l, 80, 81, first+l.draw(3), last-l.draw(3))),
		Share: l.draw(2) == 0,
		Owner: l.draw(9) - 1,
	}
	if b.Local.Addr != 0 && l.draw(2) == 0 {
		b.Remote = end(uint32(l.draw(5)), 7+l.draw(3))
	}
	switch l.draw(80) {
	case 0:
		b.Local.Port = drawn(l, 0, -1, 65536)
	case 1:
		b.Remote.Port = drawn(l, 0, -1, 65536)
	case 2:
		b.Local.Addr = 0
	case 3:
		b.Proto = drawn(l, 0, 5, 7, 16, 18)
	}
	return b
}

// seed draws one that is near the first or the last port, or any.
func (l *lot) seed() int {
	return drawn(l, l.draw(6)-3, l.draw(6)+61, int(*l), -l.draw(1000))
}

// act is one call of both tables, which have to answer the same.
func act(t *testing.T, l *lot, p *Table, s *slow, drops int) api.Errno {
	t.Helper()
	b := l.bound()
	if l.draw(20) < drops {
		got, want := p.Drop(b.Owner), s.drop(b.Owner)
		if got != want {
			t.Fatalf("Drop of %d is %d, not %d", b.Owner, got, want)
		}
		return got
	}
	if l.draw(3) > 0 {
		got, want := p.Bind(b), s.bind(b)
		if got != want {
			t.Fatalf("Bind of %+v is %d, not %d", b, got, want)
		}
		return got
	}
	seed := l.seed()
	port, got := p.Pick(b, seed)
	wantPort, want := s.pick(b, seed)
	if got != want || port != wantPort {
		t.Fatalf("Pick of %+v, %d is %d, %d, not %d, %d", b, seed, port, got, wantPort, want)
	}
	return got
}

// Many calls, each held against the slow table, so that it is now fuller, now
// emptier, and full for a while.
func TestManyCalls(t *testing.T) {
	seen := map[api.Errno]int{}
	for i := range 60 {
		l := lot(i*7919 + 1)
		p, s := New(), &slow{}
		for k := range 600 {
			seen[act(t, &l, p, s, 1+7*(k/100%2))]++
			if got := p.All(); !slices.Equal(got, s.rows) {
				t.Fatalf("lot %d, call %d: All is %+v, not %+v", i, k, got, s.rows)
			}
			for range 6 {
				ask, n := l.bound(), uint64(l.seed())
				got, is := p.Find(ask.Proto, ask.Local, ask.Remote, n)
				want, there := s.find(ask.Proto, ask.Local, ask.Remote, n)
				if got != want || is != there {
					t.Fatalf("lot %d, call %d: Find of %+v, %d is %d, %t, not %d, %t", i, k, ask, n, got, is, want, there)
				}
			}
		}
	}
	for _, e := range []api.Errno{api.OK, api.ErrArg, api.ErrUsed, api.ErrFull, api.ErrNone} {
		if seen[e] < 20 {
			t.Errorf("only %d calls came to %d", seen[e], e)
		}
	}
}
