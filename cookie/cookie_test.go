package cookie

import (
	"math"
	"strconv"
	"strings"
	"testing"

	"packetboat/api"
	"packetboat/hash"
)

const (
	key0 = 0x0706050403020100
	key1 = 0x0f0e0d0c0b0a0908
)

const (
	top    = 1 << 63
	all    = math.MaxUint64
	maxIrs = 1<<32 - 1
	last   = 1 << 40 // the last tick that there is
)

func here() api.End  { return api.End{Addr: 0x0a010909, Port: 49152} }
func there() api.End { return api.End{Addr: 0xc0a800c7, Port: 80} }

// eight are the STEPS, as the chapter writes them.
func eight() []int {
	return []int{8, 64, 216, 400, 536, 700, 850, 1000}
}

// digits are the n lowest binary digits of x, the highest one first.
func digits(x uint64, n int) string {
	s := strconv.FormatUint(x, 2)
	s = strings.Repeat("0", 64) + s
	return s[len(s)-n:]
}

// number is what binary digits tell.
func number(t *testing.T, s string) uint64 {
	t.Helper()
	n, err := strconv.ParseUint(s, 2, 64)
	if err != nil {
		t.Fatal(err)
	}
	return n
}

// xored holds digit against digit.
func xored(a, b string) string {
	var s strings.Builder
	for i := range len(a) {
		if a[i] == b[i] {
			s.WriteByte('0')
		} else {
			s.WriteByte('1')
		}
	}
	return s.String()
}

// slowSlot is the five digits of SLOT: it counts the slots, 2048 ticks round.
func slowSlot(now int) string {
	return digits(uint64(now%2048/64), 5)
}

// slowMake goes by the chapter's words in another way than Make does: by
// binary digits. It is not handed what is ErrArg.
func slowMake(t *testing.T, k0, k1 uint64, from, to api.End, irs uint32, mss, now int) uint32 {
	t.Helper()
	step := 7
	for eight()[step] > mss {
		step--
	}
	first := slowSlot(now) + digits(uint64(step), 3)
	half := digits(k1, 64)
	half = xored(half, digits(0, 32)+digits(uint64(irs), 32))
	half = xored(half, digits(0, 24)+first+digits(0, 32))
	sum := digits(hash.Pair(k0, number(t, half), from, to), 64)
	return uint32(number(t, first+sum[40:]))
}

// slowCheck makes what might have been made, in both slots and for all STEPS,
// and looks whether it is c.
func slowCheck(t *testing.T, k0, k1 uint64, from, to api.End, irs, c uint32, now int) (int, api.Errno) {
	t.Helper()
	if now < 0 || now > last {
		return 0, api.ErrArg
	}
	times := []int{now}
	if now-64 >= 0 {
		times = append(times, now-64)
	}
	e := api.ErrTimeout
	for _, at := range times {
		if digits(uint64(c), 32)[:5] != slowSlot(at) {
			continue
		}
		e = api.ErrSum
		for _, mss := range eight() {
			if slowMake(t, k0, k1, from, to, irs, mss, at) == c {
				return mss, api.OK
			}
		}
	}
	return 0, e
}

// made is a cookie of New(key0, key1) from here to there.
func made(t *testing.T, irs uint32, mss, now int) uint32 {
	t.Helper()
	c, e := New(key0, key1).Make(here(), there(), irs, mss, now)
	if e != api.OK {
		t.Fatalf("Make of irs %d, mss %d, now %d says %d", irs, mss, now, e)
	}
	return c
}

// checkMake holds Make against the slow one.
func checkMake(t *testing.T, k0, k1 uint64, from, to api.End, irs uint32, mss, now int) {
	t.Helper()
	c, e := New(k0, k1).Make(from, to, irs, mss, now)
	if want := slowMake(t, k0, k1, from, to, irs, mss, now); c != want || e != api.OK {
		t.Errorf("key %#x, %#x: Make(%v, %v, %d, %d, %d) is %#010x, %d, not %#010x",
			k0, k1, from, to, irs, mss, now, c, e, want)
	}
}

// checkIs holds the answer of Check, by the key key0, key1 from here to there,
// against what it is to be.
func checkIs(t *testing.T, name string, irs, c uint32, now, want int, why api.Errno) {
	t.Helper()
	mss, e := New(key0, key1).Check(here(), there(), irs, c, now)
	if mss != want || e != why {
		t.Errorf("%s: Check of %#010x at %d is %d, %d, not %d, %d", name, c, now, mss, e, want, why)
	}
	if mss, e = slowCheck(t, key0, key1, here(), there(), irs, c, now); mss != want || e != why {
		t.Errorf("%s: the slow one of %#010x at %d is %d, %d, not %d, %d", name, c, now, mss, e, want, why)
	}
}

// The last 24 bits are of the openssl command's SipHash-2-4.
func TestMakeOfGivenAnswers(t *testing.T) {
	most := api.End{Addr: 1<<32 - 1, Port: 65535}
	cases := []struct {
		name     string
		k0, k1   uint64
		from, to api.End
		irs      uint32
		mss, now int
		want     uint32
	}{
		{"the first tick", key0, key1, here(), there(), 1000, 536, 0, 0x042b013a},
		{"the least mss", key0, key1, here(), there(), 1000, 8, 0, 0x00630989},
		{"the last mss of a step", key0, key1, here(), there(), 1000, 63, 0, 0x00630989},
		{"the first mss of a step", key0, key1, here(), there(), 1000, 64, 0, 0x01a2b263},
		{"the last step", key0, key1, here(), there(), 1000, 1000, 0, 0x0731c60c},
		{"the greatest mss", key0, key1, here(), there(), 1000, math.MaxInt, 0, 0x0731c60c},
		{"the slot's last tick", key0, key1, here(), there(), 1000, 536, 63, 0x042b013a},
		{"the next slot", key0, key1, here(), there(), 1000, 536, 64, 0x0cef77b3},
		{"the last slot", key0, key1, here(), there(), 1000, 536, 2047, 0xfce35320},
		{"the first slot anew", key0, key1, here(), there(), 1000, 536, 2048, 0x042b013a},
		{"the last tick but one", key0, key1, here(), there(), 1000, 536, last - 1, 0xfce35320},
		{"the last tick", key0, key1, here(), there(), 1000, 536, last, 0x042b013a},
		{"another irs", key0, key1, here(), there(), 1001, 536, 0, 0x04c82a9f},
		{"the irs 0", key0, key1, here(), there(), 0, 536, 0, 0x04d1be93},
		{"the greatest irs", key0, key1, here(), there(), maxIrs, 536, 0, 0x0485e26d},
		{"there to here", key0, key1, there(), here(), 1000, 536, 0, 0x04601ad5},
		{"another k0", key0 + 1, key1, here(), there(), 1000, 536, 0, 0x0490e7e7},
		{"another k1", key0, key1 + 1, here(), there(), 1000, 536, 0, 0x04c82a9f},
		{"the key changed about", key1, key0, here(), there(), 1000, 536, 0, 0x04749048},
		{"all noughts", 0, 0, api.End{}, api.End{}, 0, 8, 0, 0x000150f2},
		{"all ones", all, all, most, most, maxIrs, 1000, 2047, 0xff47a364},
		{"small", 1, 2, api.End{Addr: 1, Port: 2}, api.End{Addr: 3, Port: 4}, 77, 600, 130, 0x14dca27c},
	}
	for _, c := range cases {
		got, e := New(c.k0, c.k1).Make(c.from, c.to, c.irs, c.mss, c.now)
		if got != c.want || e != api.OK {
			t.Errorf("%s: Make is %#010x, %d, not %#010x", c.name, got, e, c.want)
		}
		if got := slowMake(t, c.k0, c.k1, c.from, c.to, c.irs, c.mss, c.now); got != c.want {
			t.Errorf("%s: the slow one is %#010x, not %#010x", c.name, got, c.want)
		}
	}
}

func TestMakeOfWrongArguments(t *testing.T) {
	cases := []struct {
		name     string
		mss, now int
		want     api.Errno
	}{
		{"the first tick", 536, 0, api.OK},
		{"one below it", 536, -1, api.ErrArg},
		{"a slot below it", 536, -64, api.ErrArg},
		{"the least now", 536, math.MinInt, api.ErrArg},
		{"the last tick", 536, last, api.OK},
		{"one beyond it", 536, last + 1, api.ErrArg},
		{"the greatest now", 536, math.MaxInt, api.ErrArg},
		{"the least mss", 8, 100, api.OK},
		{"one below it", 7, 100, api.ErrArg},
		{"an mss of 0", 0, 100, api.ErrArg},
		{"an mss below 0", -1, 100, api.ErrArg},
		{"an mss far below 0", -536, 100, api.ErrArg},
		{"the least int as mss", math.MinInt, 100, api.ErrArg},
		{"the greatest mss", math.MaxInt, 100, api.OK},
		{"both wrong", 7, -1, api.ErrArg},
	}
	for _, c := range cases {
		got, e := New(key0, key1).Make(here(), there(), 5, c.mss, c.now)
		if e != c.want {
			t.Errorf("%s: Make says %d, not %d", c.name, e, c.want)
		}
		if e != api.OK && got != 0 {
			t.Errorf("%s: Make tells %#010x beside an error", c.name, got)
		}
	}
}

func TestMakeOfSlots(t *testing.T) {
	cases := []struct {
		now  int
		slot uint32
	}{
		{0, 0}, {1, 0}, {63, 0}, {64, 1}, {127, 1}, {128, 2}, {1983, 30}, {1984, 31}, {2047, 31},
		{2048, 0}, {2111, 0}, {2112, 1}, {4095, 31}, {4096, 0}, {1<<32 - 1, 31}, {1 << 32, 0}, {1<<32 + 64, 1},
		{last - 65, 30}, {last - 64, 31}, {last - 1, 31}, {last, 0},
	}
	for _, c := range cases {
		if got := made(t, 5, 536, c.now) >> 27; got != c.slot {
			t.Errorf("at %d the slot is %d, not %d", c.now, got, c.slot)
		}
		checkMake(t, key0, key1, here(), there(), 5, 536, c.now)
	}
}

func TestMakeOfSteps(t *testing.T) {
	for i, s := range eight() {
		cases := []struct {
			mss, step int
		}{
			{s - 1, i - 1}, {s, i}, {s + 1, i},
		}
		for _, c := range cases {
			if c.mss < 8 {
				continue // an error: see above
			}
			if got := made(t, 5, c.mss, 100) >> 24 & 7; got != uint32(c.step) {
				t.Errorf("of an mss of %d the step is %d, not %d", c.mss, got, c.step)
			}
			checkMake(t, key0, key1, here(), there(), 5, c.mss, 100)
		}
	}
	for _, mss := range []int{1001, 1400, 65535, 65536, 1 << 32, 1<<32 + 8, math.MaxInt} {
		if got := made(t, 5, mss, 100) >> 24 & 7; got != 7 {
			t.Errorf("of an mss of %d the step is %d, not 7", mss, got)
		}
	}
	for mss := 8; mss <= 1100; mss++ {
		checkMake(t, key0, key1, here(), there(), 5, mss, 100)
	}
}

// The three parts, as Pair makes the last one of them: by k1, irs and the
// first 8 bits written out by hand.
func TestMakeOfThreeParts(t *testing.T) {
	cases := []struct {
		name     string
		k0, k1   uint64
		irs      uint32
		mss, now int
		first    uint64
		half     uint64 // what k1 becomes
	}{
		{"nothing", 0, 0, 0, 8, 0, 0x00, 0},
		{"k0", 0x99, 0, 0, 8, 0, 0x00, 0},
		{"k1's lowest bit", 0, 1, 0, 8, 0, 0x00, 1},
		{"k1's highest bit", 0, top, 0, 8, 0, 0x00, top},
		{"irs' lowest bit", 0, 0, 1, 8, 0, 0x00, 1},
		{"irs' highest bit", 0, 0, 1 << 31, 8, 0, 0x00, 1 << 31},
		{"the step's lowest bit", 0, 0, 0, 64, 0, 0x01, 1 << 32},
		{"the step's highest bit", 0, 0, 0, 536, 0, 0x04, 1 << 34},
		{"the slot's lowest bit", 0, 0, 0, 8, 64, 0x08, 1 << 35},
		{"the slot's highest bit", 0, 0, 0, 8, 1024, 0x80, 1 << 39},
		{"all of the first 8 bits", 0, 0, 0, 1000, 2047, 0xff, 0xff << 32},
		{"all together", 7, 0x1122334455667788, 0x0f0f0f0f, 216, 640, 0x52, 0x112233165a697887},
		{"all ones", all, all, maxIrs, 1000, 2047, 0xff, 0xffffff0000000000},
	}
	for _, c := range cases {
		want := uint32(c.first<<24 | hash.Pair(c.k0, c.half, here(), there())%(1<<24))
		got, e := New(c.k0, c.k1).Make(here(), there(), c.irs, c.mss, c.now)
		if got != want || e != api.OK {
			t.Errorf("%s: Make is %#010x, %d, not %#010x", c.name, got, e, want)
		}
		checkMake(t, c.k0, c.k1, here(), there(), c.irs, c.mss, c.now)
	}
}

// Each bit of the key and of irs is of weight.
func TestMakeOfEachBit(t *testing.T) {
	c := made(t, 5, 536, 100)
	for bit := range 64 {
		for _, k := range [][2]uint64{{key0 ^ 1<<bit, key1}, {key0, key1 ^ 1<<bit}} {
			checkMake(t, k[0], k[1], here(), there(), 5, 536, 100)
			if got, _ := New(k[0], k[1]).Make(here(), there(), 5, 536, 100); got == c {
				t.Errorf("the key's bit %d is of no weight", bit)
			}
		}
	}
	for bit := range 32 {
		checkMake(t, key0, key1, here(), there(), 5^1<<bit, 536, 100)
		if made(t, 5^1<<bit, 536, 100) == c {
			t.Errorf("irs' bit %d is of no weight", bit)
		}
	}
}

// What is xored twice is as it was: irs stands at k1's lowest 32 bits, and the
// first 8 bits ahead of those.
func TestMakeXors(t *testing.T) {
	c := made(t, 5, 8, 0)
	for bit := range 32 {
		got, _ := New(key0, key1^1<<bit).Make(here(), there(), 5^1<<bit, 8, 0)
		if got != c {
			t.Errorf("bit %d of k1 and of irs: %#010x, not %#010x", bit, got, c)
		}
	}
	for i, mss := range eight() {
		for slot := range 32 {
			first := uint64(slot*8 + i)
			got, _ := New(key0, key1^first<<32).Make(here(), there(), 5, mss, slot*64)
			if want := uint32(first<<24) | c; got != want {
				t.Errorf("slot %d, step %d: %#010x, not %#010x", slot, i, got, want)
			}
		}
	}
}

// Each bit of both ends is of weight; a Port is cut to 16 bits, as Pair does.
func TestMakeOfEnds(t *testing.T) {
	c := made(t, 5, 536, 100)
	k := New(key0, key1)
	for bit := range 32 {
		from, to := here(), there()
		from.Addr ^= 1 << bit
		to.Addr ^= 1 << bit
		for _, ends := range [][2]api.End{{from, there()}, {here(), to}} {
			checkMake(t, key0, key1, ends[0], ends[1], 5, 536, 100)
			if got, _ := k.Make(ends[0], ends[1], 5, 536, 100); got == c {
				t.Errorf("an Addr's bit %d is of no weight", bit)
			}
		}
	}
	for bit := range 63 {
		from, to := here(), there()
		from.Port ^= 1 << bit
		to.Port ^= 1 << bit
		for _, ends := range [][2]api.End{{from, there()}, {here(), to}} {
			checkMake(t, key0, key1, ends[0], ends[1], 5, 536, 100)
			if got, _ := k.Make(ends[0], ends[1], 5, 536, 100); (got == c) != (bit >= 16) {
				t.Errorf("a Port's bit %d is cut, or is not", bit)
			}
		}
	}
}

func TestMakeOfMany(t *testing.T) {
	times := []int{0, 1, 63, 64, 65, 127, 128, 1984, 2047, 2048, 2112, 1 << 32, last - 64, last - 1, last}
	for _, k0 := range []uint64{0, 1, top, all} {
		for _, k1 := range []uint64{0, 1, 1 << 31, 1 << 32, top, all} {
			for _, irs := range []uint32{0, 1, 1 << 31, maxIrs} {
				for i, now := range times {
					checkMake(t, k0, k1, here(), there(), irs, eight()[i%8], now)
					checkMake(t, k0, k1, there(), here(), irs, eight()[i*3%8]+1, now)
				}
			}
		}
	}
}

func TestCheckOfWrongTimes(t *testing.T) {
	for _, now := range []int{-1, -64, -65, math.MinInt, last + 1, last + 64, math.MaxInt} {
		cookies := []uint32{0, 1, maxIrs, made(t, 5, 536, 0), made(t, 5, 536, 1984), made(t, 5, 536, last)}
		for _, c := range cookies {
			checkIs(t, "no tick", 5, c, now, 0, api.ErrArg)
		}
	}
	checkIs(t, "the first tick", 5, made(t, 5, 536, 0), 0, 536, api.OK)
	checkIs(t, "the last tick", 5, made(t, 5, 536, last), last, 536, api.OK)
	checkIs(t, "the last tick, of the slot ahead of it", 5, made(t, 5, 536, last-1), last, 536, api.OK)
	checkIs(t, "the last tick, of a slot before", 5, made(t, 5, 536, last-65), last, 0, api.ErrTimeout)
}

func TestCheckOfTicksLater(t *testing.T) {
	cases := []struct {
		name     string
		at, then int
		want     int
		why      api.Errno
	}{
		{"first tick: the same", 128, 128, 536, api.OK},
		{"first tick: 63 later", 128, 128 + 63, 536, api.OK},
		{"first tick: 64 later", 128, 128 + 64, 536, api.OK},
		{"first tick: 127 later", 128, 128 + 127, 536, api.OK},
		{"first tick: 128 later", 128, 128 + 128, 0, api.ErrTimeout},
		{"last tick: the same", 191, 191, 536, api.OK},
		{"last tick: 1 later", 191, 191 + 1, 536, api.OK},
		{"last tick: 63 later", 191, 191 + 63, 536, api.OK},
		{"last tick: 64 later", 191, 191 + 64, 536, api.OK},
		{"last tick: 65 later", 191, 191 + 65, 0, api.ErrTimeout},
		{"last tick: 127 later", 191, 191 + 127, 0, api.ErrTimeout},
		{"last tick: 128 later", 191, 191 + 128, 0, api.ErrTimeout},
		{"the slot's own ticks count alike", 191, 128, 536, api.OK},
		{"the slot ahead", 192, 191, 0, api.ErrTimeout},
		{"the slot ahead, from its own ahead", 192, 128, 0, api.ErrTimeout},
		{"two slots ahead", 256, 191, 0, api.ErrTimeout},
		{"the first slot: 127 later", 0, 127, 536, api.OK},
		{"the first slot: 128 later", 0, 128, 0, api.ErrTimeout},
		{"the last tick of all: 64 later", last - 64, last, 536, api.OK},
		{"the last tick of all: 65 later", last - 65, last, 0, api.ErrTimeout},
	}
	for _, c := range cases {
		checkIs(t, c.name, 5, made(t, 5, 536, c.at), c.then, c.want, c.why)
	}
}

// Below tick 64 there is no slot of 64 ticks ago; 31 is not the one ahead of 0.
func TestCheckOfTheFirstSlot(t *testing.T) {
	for now := range 64 {
		checkIs(t, "its own", 5, made(t, 5, 536, 0), now, 536, api.OK)
		checkIs(t, "the last one of all", 5, made(t, 5, 536, 2047), now, 0, api.ErrTimeout)
		checkIs(t, "the next one", 5, made(t, 5, 536, 64), now, 0, api.ErrTimeout)
	}
	for now := 64; now < 128; now++ {
		checkIs(t, "the one before", 5, made(t, 5, 536, 0), now, 536, api.OK)
		checkIs(t, "its own", 5, made(t, 5, 536, 64), now, 536, api.OK)
		checkIs(t, "the last one of all", 5, made(t, 5, 536, 2047), now, 0, api.ErrTimeout)
	}
}

// SLOT has 5 bits: behind 31 comes 0, and 2048 ticks later it is the same.
func TestCheckWhereSlotsBeginAnew(t *testing.T) {
	cases := []struct {
		name     string
		at, then int
		want     int
		why      api.Errno
	}{
		{"31, at 0", 2047, 2048, 536, api.OK},
		{"31, at the end of 0", 1984, 2111, 536, api.OK},
		{"31, at 1", 2047, 2112, 0, api.ErrTimeout},
		{"30, at 31", 1983, 2047, 536, api.OK},
		{"30, at 0", 1983, 2048, 0, api.ErrTimeout},
		{"0, at 31", 2048, 2047, 0, api.ErrTimeout},
		{"2047 later", 64, 64 + 2047, 0, api.ErrTimeout},
		{"2048 later", 64, 64 + 2048, 536, api.OK},
		{"2048 and 127 later", 64, 64 + 2048 + 127, 536, api.OK},
		{"2048 and 128 later", 64, 64 + 2048 + 128, 0, api.ErrTimeout},
		{"2048 earlier", 64 + 2048, 64, 536, api.OK},
		{"far later", 64, 64 + 1<<39, 536, api.OK},
		{"31, at the last tick", 2047, last, 536, api.OK},
		{"0, at the last tick", 0, last, 536, api.OK},
	}
	for _, c := range cases {
		checkIs(t, c.name, 5, made(t, 5, 536, c.at), c.then, c.want, c.why)
	}
}

// Each slot is held against each one.
func TestCheckOfAllSlots(t *testing.T) {
	for at := range 32 {
		c := made(t, 5, 700, at*64+at)
		for slot := range 32 {
			for _, then := range []int{2048 + slot*64, 2048 + slot*64 + 63} {
				want, why := 0, api.ErrTimeout
				if at == slot || (at+1)%32 == slot {
					want, why = 700, api.OK
				}
				checkIs(t, "any slot", 5, c, then, want, why)
			}
		}
	}
}

func TestCheckOfTurnedBits(t *testing.T) {
	for i, mss := range eight() {
		at := 64 * (10 + i)
		c := made(t, 5, mss, at)
		checkIs(t, "no bit", 5, c, at, mss, api.OK)
		for bit := range 27 {
			checkIs(t, "step or sum", 5, c^1<<bit, at, 0, api.ErrSum)
			checkIs(t, "step or sum, a slot later", 5, c^1<<bit, at+64, 0, api.ErrSum)
			checkIs(t, "step or sum, two slots later", 5, c^1<<bit, at+128, 0, api.ErrTimeout)
		}
		for bit := 27; bit < 32; bit++ {
			turned := c ^ 1<<bit
			for then := at; then < at+128; then += 64 {
				why := api.ErrTimeout
				if slot := int(turned >> 27); slot == then/64 || slot == then/64-1 {
					why = api.ErrSum
				}
				checkIs(t, "slot", 5, turned, then, 0, why)
			}
		}
	}
}

// All of the first 8 bits with the sum of one of them: the others are ErrSum
// where their slot counts, and ErrTimeout elsewhere.
func TestCheckOfAllHeads(t *testing.T) {
	c := made(t, 5, 400, 640)
	for head := range uint32(256) {
		turned := head<<24 | c&(1<<24-1)
		want, why := 0, api.ErrTimeout
		switch {
		case turned == c:
			want, why = 400, api.OK
		case head>>3 == 10 || head>>3 == 9:
			why = api.ErrSum
		}
		checkIs(t, "head", 5, turned, 640, want, why)
	}
}

func TestCheckOfSomethingElse(t *testing.T) {
	c := made(t, 5, 850, 300)
	nextHere, nextThere := here(), there()
	nextHere.Port++
	nextThere.Addr++
	cases := []struct {
		name     string
		k0, k1   uint64
		from, to api.End
		irs      uint32
		want     int
		why      api.Errno
	}{
		{"the same", key0, key1, here(), there(), 5, 850, api.OK},
		{"changed about", key0, key1, there(), here(), 5, 0, api.ErrSum},
		{"another from", key0, key1, nextHere, there(), 5, 0, api.ErrSum},
		{"another to", key0, key1, here(), nextThere, 5, 0, api.ErrSum},
		{"both from", key0, key1, here(), here(), 5, 0, api.ErrSum},
		{"an irs one greater", key0, key1, here(), there(), 6, 0, api.ErrSum},
		{"an irs one less", key0, key1, here(), there(), 4, 0, api.ErrSum},
		{"an irs of 0", key0, key1, here(), there(), 0, 0, api.ErrSum},
		{"an irs with the highest bit turned", key0, key1, here(), there(), 5 ^ 1<<31, 0, api.ErrSum},
		{"another k0", key0 ^ top, key1, here(), there(), 5, 0, api.ErrSum},
		{"another k1", key0, key1 ^ top, here(), there(), 5, 0, api.ErrSum},
		{"the key changed about", key1, key0, here(), there(), 5, 0, api.ErrSum},
		{"no key", 0, 0, here(), there(), 5, 0, api.ErrSum},
	}
	for _, a := range cases {
		for _, now := range []int{300, 256, 319, 320, 383} {
			if mss, e := New(a.k0, a.k1).Check(a.from, a.to, a.irs, c, now); mss != a.want || e != a.why {
				t.Errorf("%s: Check at %d is %d, %d, not %d, %d", a.name, now, mss, e, a.want, a.why)
			}
		}
		if mss, e := New(a.k0, a.k1).Check(a.from, a.to, a.irs, c, 384); mss != 0 || e != api.ErrTimeout {
			t.Errorf("%s: too late Check is %d, %d, not ErrTimeout", a.name, mss, e)
		}
	}
}

// What is made of an mss comes back as the greatest of the STEPS that is not
// above it.
func TestCheckOfAllSteps(t *testing.T) {
	for i, s := range eight() {
		for _, mss := range []int{s, s + 1} {
			checkIs(t, "a step", 5, made(t, 5, mss, 700), 701, s, api.OK)
		}
		if i > 0 {
			checkIs(t, "one below a step", 5, made(t, 5, s-1, 700), 701, eight()[i-1], api.OK)
		}
	}
	checkIs(t, "600", 5, made(t, 5, 600, 700), 701, 536, api.OK)
	checkIs(t, "the greatest int", 5, made(t, 5, math.MaxInt, 700), 701, 1000, api.OK)
}

// Any numbers are held against the slow one, right ones and wrong ones.
func TestCheckOfMany(t *testing.T) {
	const k0, k1 = 12, 34
	k := New(k0, k1)
	n := uint64(1)
	next := func(below int) int { // numbers that look like any
		n = n*6364136223846793005 + 1442695040888963407
		return int(n >> 33 % uint64(below))
	}
	for range 20000 {
		now := next(5000) - 100
		irs := uint32(next(4))
		c := uint32(next(1<<30))<<2 | uint32(next(4))
		if at := now + next(300) - 200; at >= 0 && next(4) > 0 {
			c, _ = k.Make(there(), here(), irs, 8+next(1100), at)
		}
		if next(6) == 0 {
			irs++
		}
		mss, e := k.Check(there(), here(), irs, c, now)
		if want, why := slowCheck(t, k0, k1, there(), here(), irs, c, now); mss != want || e != why {
			t.Fatalf("Check of irs %d, %#010x at %d is %d, %d, not %d, %d", irs, c, now, mss, e, want, why)
		}
	}
}

// P2: nothing is kept but the key, and that by the Key whose it is.
func TestNothingIsKept(t *testing.T) {
	k, other := New(key0, key1), New(1, 2)
	c := made(t, 5, 536, 100)
	for n := range 300 {
		other.Make(there(), here(), uint32(n), 8+n, n*50)
		other.Check(here(), there(), 5, c, 100)
		k.Make(there(), here(), uint32(n), n, n*70-1000)
		k.Check(there(), here(), uint32(n), c, n*70-1000)
		New(uint64(n), all)
		if got, e := k.Make(here(), there(), 5, 536, 100); got != c || e != api.OK {
			t.Fatalf("behind %d calls Make is %#010x, %d, not %#010x", n, got, e, c)
		}
		if mss, e := k.Check(here(), there(), 5, c, 100); mss != 536 || e != api.OK {
			t.Fatalf("behind %d calls Check is %d, %d", n, mss, e)
		}
	}
	if *k != (Key{key0, key1}) || *other != (Key{1, 2}) {
		t.Errorf("the keys are changed: %v, %v", *k, *other)
	}
	if New(1, 2) == other {
		t.Error("New told a Key that it had told before")
	}
}
