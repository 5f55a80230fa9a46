package hash

import (
	"math"
	"math/big"
	"strings"
	"testing"

	"packetboat/api"
)

// published0 and published1 are the key 00 01 .. 0f of SipHash's own answers.
const (
	published0 = 0x0706050403020100
	published1 = 0x0f0e0d0c0b0a0908
)

const (
	top = 1 << 63
	all = math.MaxUint64
)

// edges are what each half of a key is tried with.
func edges() []uint64 {
	return []uint64{0, 1, top, all}
}

// rising are n bytes, of which each one is its place.
func rising(n int) string {
	b := make([]byte, n)
	for i := range b {
		b[i] = byte(i)
	}
	return string(b)
}

// mixed are n bytes, low ones and high ones.
func mixed(n int) string {
	b := make([]byte, n)
	for i := range b {
		b[i] = byte(i*151 + i/7*3 + 200)
	}
	return string(b)
}

// slow goes by the chapter's words in another way than Sip does: by whole
// numbers, that are divided and multiplied instead of being moved.
type slow struct {
	v [4]*big.Int
}

// power is 2 to the n.
func power(n int) *big.Int {
	return new(big.Int).Exp(big.NewInt(2), big.NewInt(int64(n)), nil)
}

// decimal is the number that digits tell.
func decimal(digits string) *big.Int {
	n, ok := new(big.Int).SetString(digits, 10)
	if !ok {
		panic("no number: " + digits)
	}
	return n
}

// add is "v[a] is v[a] + v[b]".
func (w *slow) add(a, b int) {
	w.v[a].Add(w.v[a], w.v[b])
	w.v[a].Mod(w.v[a], power(64))
}

// around is "v[a] is v[a] round n".
func (w *slow) around(a, n int) {
	above, below := new(big.Int).DivMod(w.v[a], power(64-n), new(big.Int))
	w.v[a] = below.Mul(below, power(n)).Add(below, above)
}

// xor is "v[a] is xored with m".
func (w *slow) xor(a int, m *big.Int) {
	w.v[a].Xor(w.v[a], m)
}

// round is a ROUND, sentence by sentence.
func (w *slow) round() {
	w.add(0, 1)
	w.around(1, 13)
	w.xor(1, w.v[0])
	w.around(0, 32)
	w.add(2, 3)
	w.around(3, 16)
	w.xor(3, w.v[2])
	w.add(0, 3)
	w.around(3, 21)
	w.xor(3, w.v[0])
	w.add(2, 1)
	w.around(1, 17)
	w.xor(1, w.v[2])
	w.around(2, 32)
}

// padded is s, noughts until one place lacks to whole eights, and there how
// many bytes s has.
func padded(s string) string {
	noughts := 7 - len(s)%8
	return s + strings.Repeat("\x00", noughts) + string([]byte{byte(len(s) % 256)})
}

// slowSip is Sip by whole numbers.
func slowSip(k0, k1 uint64, s string) uint64 {
	key0, key1 := new(big.Int).SetUint64(k0), new(big.Int).SetUint64(k1)
	w := slow{[4]*big.Int{
		decimal("8317987319222330741"), decimal("7237128888997146477"),
		decimal("7816392313619706465"), decimal("8387220255154660723"),
	}}
	w.xor(0, key0)
	w.xor(1, key1)
	w.xor(2, key0)
	w.xor(3, key1)
	for rest := padded(s); rest != ""; rest = rest[8:] {
		m := new(big.Int)
		for i := 7; i >= 0; i-- {
			m.Mul(m, big.NewInt(256)).Add(m, big.NewInt(int64(rest[i])))
		}
		w.xor(3, m)
		w.round()
		w.round()
		w.xor(0, m)
	}
	w.xor(2, big.NewInt(255))
	for range 4 {
		w.round()
	}
	w.xor(0, w.v[1])
	w.xor(0, w.v[2])
	w.xor(0, w.v[3])
	return w.v[0].Uint64()
}

// checkSip holds Sip against the slow one.
func checkSip(t *testing.T, k0, k1 uint64, s string) {
	t.Helper()
	if got, want := Sip(k0, k1, s), slowSip(k0, k1, s); got != want {
		t.Errorf("Sip(%#x, %#x, %d bytes, the first ones %q) is %#016x, not %#016x",
			k0, k1, len(s), s[:min(len(s), 20)], got, want)
	}
}

// published are SipHash-2-4's answers of 0, 1, 2 .. 63 bytes, for which it
// publishes a list. They are written down from the openssl command, not from
// that list; the one of 15 bytes is DOC.md's, too.
func published() []uint64 {
	return []uint64{
		0x726fdb47dd0e0e31, 0x74f839c593dc67fd, 0x0d6c8009d9a94f5a, 0x85676696d7fb7e2d,
		0xcf2794e0277187b7, 0x18765564cd99a68d, 0xcbc9466e58fee3ce, 0xab0200f58b01d137,
		0x93f5f5799a932462, 0x9e0082df0ba9e4b0, 0x7a5dbbc594ddb9f3, 0xf4b32f46226bada7,
		0x751e8fbc860ee5fb, 0x14ea5627c0843d90, 0xf723ca908e7af2ee, 0xa129ca6149be45e5,
		0x3f2acc7f57c29bdb, 0x699ae9f52cbe4794, 0x4bc1b3f0968dd39c, 0xbb6dc91da77961bd,
		0xbed65cf21aa2ee98, 0xd0f2cbb02e3b67c7, 0x93536795e3a33e88, 0xa80c038ccd5ccec8,
		0xb8ad50c6f649af94, 0xbce192de8a85b8ea, 0x17d835b85bbb15f3, 0x2f2e6163076bcfad,
		0xde4daaaca71dc9a5, 0xa6a2506687956571, 0xad87a3535c49ef28, 0x32d892fad841c342,
		0x7127512f72f27cce, 0xa7f32346f95978e3, 0x12e0b01abb051238, 0x15e034d40fa197ae,
		0x314dffbe0815a3b4, 0x027990f029623981, 0xcadcd4e59ef40c4d, 0x9abfd8766a33735c,
		0x0e3ea96b5304a7d0, 0xad0c42d6fc585992, 0x187306c89bc215a9, 0xd4a60abcf3792b95,
		0xf935451de4f21df2, 0xa9538f0419755787, 0xdb9acddff56ca510, 0xd06c98cd5c0975eb,
		0xe612a3cb9ecba951, 0xc766e62cfcadaf96, 0xee64435a9752fe72, 0xa192d576b245165a,
		0x0a8787bf8ecb74b2, 0x81b3e73d20b49b6f, 0x7fa8220ba3b2ecea, 0x245731c13ca42499,
		0xb78dbfaf3a8d83bd, 0xea1ad565322a1a0b, 0x60e61c23a3795013, 0x6606d7e446282b93,
		0x6ca4ecb15c5f91e1, 0x9f626da15c9625f3, 0xe51b38608ef25f57, 0x958a324ceb064572,
	}
}

func TestSipOfPublishedTexts(t *testing.T) {
	for n, want := range published() {
		s := rising(n)
		if got := Sip(published0, published1, s); got != want {
			t.Errorf("Sip of %d bytes is %#016x, not %#016x", n, got, want)
		}
		if got := slowSip(published0, published1, s); got != want {
			t.Errorf("the slow one of %d bytes is %#016x, not %#016x", n, got, want)
		}
	}
}

// Another program's answers: the openssl command's.
func TestSipOfGivenLengths(t *testing.T) {
	cases := []struct {
		n    int
		want uint64
	}{
		{0, 0x8464a3c3c0011c54},
		{1, 0x8316897d26148369},
		{7, 0x35410f7dbc32ca23},
		{8, 0xb54ed7efca847e1a},
		{9, 0xcd45da21e52155f6},
		{15, 0xb243438e3e0a14c4},
		{16, 0x161204414559fb25},
		{17, 0x2a00ddf80870fe6a},
		{63, 0xed07f24d45491f69},
		{64, 0xb53793e9e3b13b45},
		{65, 0x695ee6cb50cdde98},
		{255, 0xae029ce11cc13e99},
		{256, 0xf53f0c276e27a32a},
		{257, 0x33f177ac81afb7b3},
		{511, 0x2a5d88c3d2715511},
		{512, 0x2f55e1237f48ce2c},
		{513, 0x3948336a81bbd81f},
		{100000, 0xdde33817f0e671ea},
		{100003, 0x8fc0f108b51c7ed5},
	}
	for _, c := range cases {
		if got := Sip(0x123456789abcdef0, 0xfedcba9876543210, mixed(c.n)); got != c.want {
			t.Errorf("Sip of %d bytes is %#016x, not %#016x", c.n, got, c.want)
		}
	}
}

// Another program's answers: the openssl command's.
func TestSipOfGivenKeys(t *testing.T) {
	cases := []struct {
		k0, k1    uint64
		none, few uint64
	}{
		{0, 0, 0x1e924b9d737700d7, 0xddf060d1d8277f3a},
		{0, 1, 0xc4235c5247d6521c, 0x97be28debc32b985},
		{0, top, 0x87f7600ac7c98ce8, 0x4442414c00c4563f},
		{0, all, 0x4d0617e48cf8737b, 0xb15ed6147207f45e},
		{1, 0, 0x54e761ac4b1ca3de, 0x9c6433be64e379ff},
		{1, 1, 0x616d8985de49e87c, 0x31dd7edc5f4caceb},
		{1, top, 0xd78c25551edb5950, 0x2970e2e38b17750a},
		{1, all, 0x21272643cb08c195, 0x385bce37bd2ce98d},
		{top, 0, 0x620f794693c9a5b9, 0xcfefe68b1e685e5f},
		{top, 1, 0xb80261731e097a96, 0xd237e7358a678608},
		{top, top, 0x736249c64a72a106, 0x4a1c98450e29abca},
		{top, all, 0x0eadb796e7ba03db, 0xdf8a543cc40471d6},
		{all, 0, 0xa4e3fdab06a40925, 0x6adce17646ade4fa},
		{all, 1, 0x3d44093d886c2c61, 0x1b0803a13e9a1466},
		{all, top, 0x81802727c6ace247, 0x069d07237a80ae68},
		{all, all, 0x35dd279ee86ce565, 0x0dbec442ae9a2ea7},
	}
	const few = "\xf5\xf6\xf7\xf8\xf9\xfa\xfb\xfc\xfd\xfe\xff\x7f\x80"
	for _, c := range cases {
		if got := Sip(c.k0, c.k1, ""); got != c.none {
			t.Errorf("Sip(%#x, %#x) of nothing is %#016x, not %#016x", c.k0, c.k1, got, c.none)
		}
		if got := Sip(c.k0, c.k1, few); got != c.few {
			t.Errorf("Sip(%#x, %#x) is %#016x, not %#016x", c.k0, c.k1, got, c.few)
		}
	}
}

func TestSipOfManyLengths(t *testing.T) {
	for n := range 530 {
		checkSip(t, 0x0123456789abcdef, 0x8877665544332211, mixed(n))
	}
	for _, n := range []int{1023, 1024, 1025, 65535, 65536, 65537} {
		checkSip(t, 0x0123456789abcdef, 0x8877665544332211, mixed(n))
	}
}

func TestSipOfManyKeys(t *testing.T) {
	for _, n := range []int{0, 1, 7, 8, 9, 15, 16, 17, 255, 256, 257} {
		for _, k0 := range edges() {
			for _, k1 := range edges() {
				checkSip(t, k0, k1, mixed(n))
			}
		}
	}
}

// Each bit of each half of the key is of weight.
func TestSipOfEachBitOfTheKey(t *testing.T) {
	none := Sip(0, 0, "abc")
	for bit := range 64 {
		checkSip(t, 1<<bit, 0, "abc")
		checkSip(t, 0, 1<<bit, "abc")
		if Sip(1<<bit, 0, "abc") == none || Sip(0, 1<<bit, "abc") == none {
			t.Errorf("the key's bit %d is of no weight", bit)
		}
	}
}

// Each byte stands in each of the eight places, of a number that is whole and
// of the last one, whose eighth place no byte of a text has.
func TestSipOfEachByte(t *testing.T) {
	for b := range 256 {
		for at := range 8 {
			whole := []byte("\x00\x00\x00\x00\x00\x00\x00\x00")
			whole[at] = byte(b)
			checkSip(t, 1, 2, string(whole))
			checkSip(t, 1, 2, string(whole)+"abc")
			if at < 7 {
				checkSip(t, 1, 2, string(whole[:7]))
				checkSip(t, 1, 2, "abcdefgh"+string(whole[:at+1]))
			}
		}
	}
}

func TestSipOfHighBytes(t *testing.T) {
	for n := range 18 {
		for _, b := range []string{"\x00", "\x7f", "\x80", "\xff"} {
			checkSip(t, 3, 4, strings.Repeat(b, n))
		}
	}
}

// Noughts behind a text make another one of it, and so does how many there
// are: those of 0 to 300 bytes are all told apart.
func TestSipOfNoughts(t *testing.T) {
	seen := map[uint64]int{}
	for n := range 301 {
		s := strings.Repeat("\x00", n)
		checkSip(t, 5, 6, s)
		h := Sip(5, 6, s)
		if was, is := seen[h]; is {
			t.Errorf("%d and %d noughts have the same Sip", was, n)
		}
		seen[h] = n
	}
}

// How many bytes there are is cut to 8 bits: it begins anew at each 256.
func TestSipCountsToEightBits(t *testing.T) {
	for _, n := range []int{255, 256, 257, 256*9 - 1, 256 * 9, 256*9 + 1, 256*256 - 1, 256 * 256, 256*256 + 1} {
		checkSip(t, 7, 8, strings.Repeat("\x00", n))
		checkSip(t, 7, 8, strings.Repeat("\xff", n))
	}
}

// twelve is the bytes of two ends, by quotients and rests.
func twelve(from, to api.End) string {
	var b []byte
	for _, e := range []api.End{from, to} {
		a := int(e.Addr)
		p := (e.Port%65536 + 65536) % 65536
		for _, n := range []int{a / (1 << 24), a / (1 << 16), a / (1 << 8), a, p / 256, p} {
			b = append(b, byte(n%256))
		}
	}
	return string(b)
}

// checkPair holds Pair against Sip of twelve bytes.
func checkPair(t *testing.T, k0, k1 uint64, from, to api.End, bytes string) {
	t.Helper()
	if len(bytes) != 12 {
		t.Fatalf("%q has %d bytes", bytes, len(bytes))
	}
	got := Pair(k0, k1, from, to)
	if want := Sip(k0, k1, bytes); got != want {
		t.Errorf("Pair(%#x, %#x, %v, %v) is %#016x, not %#016x", k0, k1, from, to, got, want)
	}
	if want := slowSip(k0, k1, bytes); got != want {
		t.Errorf("Pair(%#x, %#x, %v, %v) is %#016x, not the slow %#016x", k0, k1, from, to, got, want)
	}
}

func TestPairOfGivenEnds(t *testing.T) {
	cases := []struct {
		name     string
		from, to api.End
		bytes    string
	}{
		{"small", api.End{Addr: 3, Port: 4}, api.End{Addr: 5, Port: 6}, "\x00\x00\x00\x03\x00\x04\x00\x00\x00\x05\x00\x06"},
		{"nothing", api.End{}, api.End{}, "\x00\x00\x00\x00\x00\x00\x00\x00\x00\x00\x00\x00"},
		{"all that differs", api.End{Addr: 0x01020304, Port: 0x0506}, api.End{Addr: 0x0708090a, Port: 0x0b0c}, "\x01\x02\x03\x04\x05\x06\x07\x08\x09\x0a\x0b\x0c"},
		{"high bytes", api.End{Addr: 0xfefdfcfb, Port: 0xfaf9}, api.End{Addr: 0x80818283, Port: 0x8485}, "\xfe\xfd\xfc\xfb\xfa\xf9\x80\x81\x82\x83\x84\x85"},
		{"the highest bit of from's Addr", api.End{Addr: 1 << 31}, api.End{}, "\x80\x00\x00\x00\x00\x00\x00\x00\x00\x00\x00\x00"},
		{"the highest bit of to's Addr", api.End{}, api.End{Addr: 1 << 31}, "\x00\x00\x00\x00\x00\x00\x80\x00\x00\x00\x00\x00"},
		{"the greatest", api.End{Addr: 1<<32 - 1, Port: 65535}, api.End{Addr: 1<<32 - 1, Port: 65535}, "\xff\xff\xff\xff\xff\xff\xff\xff\xff\xff\xff\xff"},
		{"ports 255 and 256", api.End{Addr: 1, Port: 255}, api.End{Addr: 2, Port: 256}, "\x00\x00\x00\x01\x00\xff\x00\x00\x00\x02\x01\x00"},
		{"ports 65536 and 65537", api.End{Addr: 1, Port: 65536}, api.End{Addr: 2, Port: 65537}, "\x00\x00\x00\x01\x00\x00\x00\x00\x00\x02\x00\x01"},
		{"ports -1 and -2", api.End{Addr: 1, Port: -1}, api.End{Addr: 2, Port: -2}, "\x00\x00\x00\x01\xff\xff\x00\x00\x00\x02\xff\xfe"},
		{"ports -256 and -65536", api.End{Addr: 1, Port: -256}, api.End{Addr: 2, Port: -65536}, "\x00\x00\x00\x01\xff\x00\x00\x00\x00\x02\x00\x00"},
		{"the least and the greatest port", api.End{Addr: 1, Port: math.MinInt}, api.End{Addr: 2, Port: math.MaxInt}, "\x00\x00\x00\x01\x00\x00\x00\x00\x00\x02\xff\xff"},
	}
	for _, c := range cases {
		if b := twelve(c.from, c.to); b != c.bytes {
			t.Errorf("%s: the bytes are %q, not %q", c.name, b, c.bytes)
		}
		checkPair(t, 1, 2, c.from, c.to, c.bytes)
		checkPair(t, all, top, c.from, c.to, c.bytes)
	}
}

// Another program's answers: the openssl command's.
func TestPairOfGivenAnswers(t *testing.T) {
	here := api.End{Addr: 0x0a010909, Port: 49152}
	there := api.End{Addr: 0xc0a800c7, Port: 80}
	cases := []struct {
		name     string
		k0, k1   uint64
		from, to api.End
		want     uint64
	}{
		{"here to there", published0, published1, here, there, 0x6b6e92a7ef9c1af3},
		{"there to here", published0, published1, there, here, 0x842e916e2e872867},
		{"there to there", published0, published1, there, there, 0x0c5ca3fa7e13c3b6},
		{"another k0", published0 + 1, published1, here, there, 0x4e8301dda922b14b},
		{"another k1", published0, published1 + 1, here, there, 0xa68bcf32d2a20be9},
		{"the key changed about", published1, published0, here, there, 0x0a9170e313dd2c27},
	}
	for _, c := range cases {
		if got := Pair(c.k0, c.k1, c.from, c.to); got != c.want {
			t.Errorf("%s: Pair is %#016x, not %#016x", c.name, got, c.want)
		}
	}
}

// ends lie around each bound that an Addr and a Port have.
func ends() []api.End {
	var list []api.End
	for _, a := range []uint32{0, 1, 0xff, 0x100, 0x01020304, 1<<31 - 1, 1 << 31, 1<<32 - 1} {
		for _, p := range []int{math.MinInt, -65537, -65536, -1, 0, 1, 255, 256, 0x1234, 65535, 65536, 65537, 1 << 32, math.MaxInt} {
			list = append(list, api.End{Addr: a, Port: p})
		}
	}
	return list
}

func TestPairOfManyEnds(t *testing.T) {
	for _, from := range ends() {
		for _, to := range ends() {
			bytes := twelve(from, to)
			if got, want := Pair(9, 10, from, to), Sip(9, 10, bytes); got != want {
				t.Errorf("Pair(9, 10, %v, %v) is %#016x, not %#016x", from, to, got, want)
			}
			same := bytes[:6] == bytes[6:]
			if back := Pair(9, 10, to, from); (back == Pair(9, 10, from, to)) != same {
				t.Errorf("%v and %v, changed about: Pair is %#016x", from, to, back)
			}
		}
	}
}

func TestPairOfManyKeys(t *testing.T) {
	from, to := api.End{Addr: 0x01020304, Port: 0x0506}, api.End{Addr: 0xf708090a, Port: 0xfb0c}
	for _, k0 := range edges() {
		for _, k1 := range edges() {
			checkPair(t, k0, k1, from, to, "\x01\x02\x03\x04\x05\x06\xf7\x08\x09\x0a\xfb\x0c")
		}
	}
}

// Each bit of an Addr, and each of the lowest 16 of a Port, is of weight;
// those of a Port that are higher are not.
func TestPairOfEachBit(t *testing.T) {
	none := Pair(11, 12, api.End{}, api.End{})
	for bit := range 32 {
		e := api.End{Addr: 1 << bit}
		checkPair(t, 11, 12, e, api.End{}, twelve(e, api.End{}))
		checkPair(t, 11, 12, api.End{}, e, twelve(api.End{}, e))
	}
	for bit := range 63 {
		e := api.End{Port: 1 << bit}
		checkPair(t, 11, 12, e, api.End{}, twelve(e, api.End{}))
		checkPair(t, 11, 12, api.End{}, e, twelve(api.End{}, e))
		if got := Pair(11, 12, e, api.End{}) != none; got != (bit < 16) {
			t.Errorf("whether the Port's bit %d is of weight: %t", bit, got)
		}
	}
}

// P2: what a call answers hangs on nothing that was handed to another one.
func TestNothingIsKept(t *testing.T) {
	here, there := api.End{Addr: 1, Port: 2}, api.End{Addr: 3, Port: 4}
	pair := Pair(1, 2, here, there)
	for n := range 300 {
		Sip(uint64(n), all, mixed(n))
		Pair(all, uint64(n), there, here)
		if got := Sip(published0, published1, rising(15)); got != 0xa129ca6149be45e5 {
			t.Fatalf("behind %d bytes Sip answers otherwise: %#016x", n, got)
		}
		if got := Pair(1, 2, here, there); got != pair {
			t.Fatalf("behind %d bytes Pair answers otherwise: %#016x", n, got)
		}
	}
}
