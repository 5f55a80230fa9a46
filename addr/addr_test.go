package addr

import (
	"fmt"
	"math"
	"regexp"
	"slices"
	"strconv"
	"strings"
	"testing"

	"packetboat/api"
)

const (
	all  = 1 << 32 // how many addresses there are
	half = 1 << 31
	last = all - 1
)

// addresses lie at both ends, in the middle, at the bounds of bytes and of
// widths of digits.
func addresses() []uint32 {
	return []uint32{0, 1, 2, 3, 6, 7, 8, 9, 10, 99, 100, 199, 200, 249, 250, 254, 255, 256, 257, 1<<16 - 1, 1 << 16,
		1<<16 + 1, 1<<24 - 1, 1 << 24, 1<<24 + 1, 10 << 24, 10<<24 + 255, 0x01020304, 0x7f000001, half - 1,
		half, half + 1, 0xc0a80001, 0xc0a800c7, 0xff00ff00, 0xfffffe00, last - 255, last - 2, last - 1, last}
}

// counts of bits lie around each bound that they have.
func counts() []int {
	return []int{math.MinInt, math.MinInt + 1, -all, -64, -33, -32, -31, -2, -1, 0, 1, 2, 7, 8, 9, 15, 16, 17, 23,
		24, 25, 30, 31, 32, 33, 34, 63, 64, 65, 255, 256, 256 + 8, all, all + 8, math.MaxInt - 1, math.MaxInt}
}

// slowPrint goes by another way than Print does: by a form, and division.
func slowPrint(a uint32) string {
	n := int(a)
	return fmt.Sprintf("%d.%d.%d.%d", n/16777216, n/65536%256, n/256%256, n%256)
}

var (
	addrForm   = regexp.MustCompile(`\A(0|[1-9][0-9]{0,2})\.(0|[1-9][0-9]{0,2})\.(0|[1-9][0-9]{0,2})\.(0|[1-9][0-9]{0,2})\z`)
	prefixForm = regexp.MustCompile(`\A([0-9.]+)/(0|[1-9][0-9]?)\z`)
)

// slowParse takes the whole text by its form ahead of looking at its numbers.
func slowParse(s string) (uint32, api.Errno) {
	parts := addrForm.FindStringSubmatch(s)
	if parts == nil {
		return 0, api.ErrForm
	}
	a := 0
	for _, part := range parts[1:] {
		n, err := strconv.Atoi(part)
		if err != nil || n > 255 {
			return 0, api.ErrForm
		}
		a = a*256 + n
	}
	return uint32(a), api.OK
}

func slowParsePrefix(s string) (api.Prefix, api.Errno) {
	parts := prefixForm.FindStringSubmatch(s)
	if parts == nil {
		return api.Prefix{}, api.ErrForm
	}
	a, e := slowParse(parts[1])
	n, err := strconv.Atoi(parts[2])
	if e != api.OK || err != nil || slowCheck(api.Prefix{Addr: a, Bits: n}) != api.OK {
		return api.Prefix{}, api.ErrForm
	}
	return api.Prefix{Addr: a, Bits: n}, api.OK
}

// slowCheck asks for the bits one by one, in the text of the address.
func slowCheck(p api.Prefix) api.Errno {
	if p.Bits < 0 || p.Bits > 32 {
		return api.ErrArg
	}
	if strings.Contains(fmt.Sprintf("%032b", p.Addr)[p.Bits:], "1") {
		return api.ErrForm
	}
	return api.OK
}

// slowHas holds the first bits against each other as texts.
func slowHas(p api.Prefix, a uint32) bool {
	if slowCheck(p) != api.OK {
		return false
	}
	return fmt.Sprintf("%032b", a)[:p.Bits] == fmt.Sprintf("%032b", p.Addr)[:p.Bits]
}

// damaged is all texts that come of s by one byte: taken away, put in, or
// exchanged.
func damaged(s string) []string {
	var list []string
	for at := range len(s) + 1 {
		if at < len(s) {
			list = append(list, s[:at]+s[at+1:])
		}
		for b := range 256 {
			one := string([]byte{byte(b)})
			list = append(list, s[:at]+one+s[at:])
			if at < len(s) {
				list = append(list, s[:at]+one+s[at+1:])
			}
		}
	}
	return list
}

func TestPrintOfGivenAddresses(t *testing.T) {
	cases := []struct {
		a    uint32
		want string
	}{
		{0, "0.0.0.0"},
		{1, "0.0.0.1"},
		{255, "0.0.0.255"},
		{256, "0.0.1.0"},
		{0x01020304, "1.2.3.4"},
		{10<<24 + 255, "10.0.0.255"},
		{0x7f000001, "127.0.0.1"},
		{half, "128.0.0.0"},
		{0xc0a800c7, "192.168.0.199"},
		{0x0a6409c8, "10.100.9.200"},
		{last - 1, "255.255.255.254"},
		{last, "255.255.255.255"},
	}
	for _, c := range cases {
		if got := Print(c.a); got != c.want {
			t.Errorf("Print(%d) is %q, not %q", c.a, got, c.want)
		}
		if got, e := Parse(c.want); got != c.a || e != api.OK {
			t.Errorf("Parse(%q) is %d, %d", c.want, got, e)
		}
	}
}

// Every byte at each of the four places.
func TestPrintAndParseOfEveryByte(t *testing.T) {
	for _, base := range addresses() {
		for place := 0; place < 32; place += 8 {
			for b := range uint32(256) {
				a := base&^(255<<place) | b<<place
				s := Print(a)
				if want := slowPrint(a); s != want {
					t.Fatalf("Print(%d) is %q, not %q", a, s, want)
				}
				if got, e := Parse(s); got != a || e != api.OK {
					t.Fatalf("Parse(%q) is %d, %d", s, got, e)
				}
			}
		}
	}
}

// wrongAddresses are texts that Print tells of no address.
func wrongAddresses() []string {
	list := []string{"", ".", "..", "...", "....", "1", "1.2", "1.2.3", "1.2.3.", ".1.2.3", "1..2.3", "1.2..3",
		"1.2.3.4.", ".1.2.3.4", "1.2.3.4.5", "1.2.3.4..", "1.2.3.4.5.6.7.8", "01.2.3.4", "1.02.3.4", "1.2.003.4",
		"1.2.3.04", "00.0.0.0", "0.0.0.00", "0.0.0.000", "256.0.0.1", "1.256.0.0", "1.2.300.4", "0.0.0.256",
		"0.0.0.999", "0.0.0.1000", "0.0.0.2550", "-1.2.3.4", "1.2.3.-4", "+1.2.3.4", "1.2.3.+4", "-0.0.0.0",
		"1.2.3.4 ", " 1.2.3.4", "1. 2.3.4", "1.2.3.4\n", "1.2.3.4\x00", "\x001.2.3.4", "a.b.c.d", "1.2.3.a",
		"0x1.2.3.4", "1.2.3.0xff", "1.2.3.ff", "1e1.2.3.4", "1_0.2.3.4", "1,2,3,4", "1:2:3:4", "1.2.3.4/32",
		"0.0.0.0/0", "/", "1/2/3/4", "16909060", "\xff.2.3.4", "\u0661.2.3.4", "1.2.3.\uff14", "1\u30022.3.4",
		// Numbers that would go round, at 32 bits and at 64, to one below 256.
		"4294967296.0.0.0", "4294967297.2.3.4", "1.2.3.4294967300", "18446744073709551616.0.0.0",
		"1.2.3.18446744073709551620", "1.2.3.-18446744073709551612"}
	for _, n := range []int{16, 1000, 1 << 20} {
		list = append(list, strings.Repeat("0", n), strings.Repeat("1", n), strings.Repeat(".", n),
			strings.Repeat("1.", n), "1.2.3."+strings.Repeat("0", n)+"4", "1.2.3.4"+strings.Repeat("0", n),
			"1.2.3.4"+strings.Repeat(" ", n), strings.Repeat("9", n)+".2.3.4")
	}
	return list
}

func TestParseOfWrongTexts(t *testing.T) {
	for _, s := range wrongAddresses() {
		if got, e := Parse(s); got != 0 || e != api.ErrForm {
			t.Errorf("Parse(%.40q) is %d, %d", s, got, e)
		}
	}
}

func TestParseOfDamagedTexts(t *testing.T) {
	for _, a := range addresses() {
		for _, s := range damaged(slowPrint(a)) {
			got, e := Parse(s)
			if want, wantE := slowParse(s); got != want || e != wantE {
				t.Errorf("Parse(%q) is %d, %d, not %d, %d", s, got, e, want, wantE)
			}
		}
	}
}

func TestPrefixesThatAreGiven(t *testing.T) {
	cases := []struct {
		p    api.Prefix
		e    api.Errno
		want string
	}{
		{api.Prefix{}, api.OK, "0.0.0.0/0"},
		{api.Prefix{Addr: 0, Bits: 32}, api.OK, "0.0.0.0/32"},
		{api.Prefix{Addr: last, Bits: 32}, api.OK, "255.255.255.255/32"},
		{api.Prefix{Addr: last - 1, Bits: 31}, api.OK, "255.255.255.254/31"},
		{api.Prefix{Addr: half, Bits: 1}, api.OK, "128.0.0.0/1"},
		{api.Prefix{Addr: 0, Bits: 1}, api.OK, "0.0.0.0/1"},
		{api.Prefix{Addr: 10 << 24, Bits: 8}, api.OK, "10.0.0.0/8"},
		{api.Prefix{Addr: 10 << 24, Bits: 7}, api.OK, "10.0.0.0/7"},
		{api.Prefix{Addr: 0xc0a80000, Bits: 16}, api.OK, "192.168.0.0/16"},
		{api.Prefix{Addr: 10 << 24, Bits: 6}, api.ErrForm, ""},
		{api.Prefix{Addr: 10<<24 + 1, Bits: 8}, api.ErrForm, ""},
		{api.Prefix{Addr: 10<<24 + 1<<23, Bits: 8}, api.ErrForm, ""},
		{api.Prefix{Addr: 1, Bits: 0}, api.ErrForm, ""},
		{api.Prefix{Addr: half, Bits: 0}, api.ErrForm, ""},
		{api.Prefix{Addr: last, Bits: 31}, api.ErrForm, ""},
		{api.Prefix{Addr: 0, Bits: -1}, api.ErrArg, ""},
		{api.Prefix{Addr: 0, Bits: 33}, api.ErrArg, ""},
		{api.Prefix{Addr: last, Bits: -1}, api.ErrArg, ""},
		{api.Prefix{Addr: last, Bits: 33}, api.ErrArg, ""},
		{api.Prefix{Addr: 1, Bits: math.MinInt}, api.ErrArg, ""},
		{api.Prefix{Addr: 1, Bits: math.MaxInt}, api.ErrArg, ""},
		{api.Prefix{Addr: 0, Bits: all + 8}, api.ErrArg, ""},
	}
	for _, c := range cases {
		if e := Check(c.p); e != c.e {
			t.Errorf("Check(%v) is %d, not %d", c.p, e, c.e)
		}
		if s, e := PrintPrefix(c.p); s != c.want || e != c.e {
			t.Errorf("PrintPrefix(%v) is %q, %d", c.p, s, e)
		}
		if c.e != api.OK {
			continue
		}
		if p, e := ParsePrefix(c.want); p != c.p || e != api.OK {
			t.Errorf("ParsePrefix(%q) is %v, %d", c.want, p, e)
		}
	}
}

// Each address with each count of bits: as it is, and cut to these bits.
func TestManyPrefixes(t *testing.T) {
	for _, a := range addresses() {
		for _, n := range counts() {
			checkPrefix(t, api.Prefix{Addr: a, Bits: n})
		}
		for n := range 33 {
			checkPrefix(t, api.Prefix{Addr: a, Bits: n})
			checkPrefix(t, api.Prefix{Addr: uint32(int(a) >> (32 - n) << (32 - n)), Bits: n})
		}
	}
}

func checkPrefix(t *testing.T, p api.Prefix) {
	t.Helper()
	want := slowCheck(p)
	if e := Check(p); e != want {
		t.Errorf("Check(%v) is %d, not %d", p, e, want)
	}
	text := slowPrint(p.Addr) + "/" + strconv.Itoa(p.Bits)
	s, e := PrintPrefix(p)
	back, backE := ParsePrefix(text)
	if want != api.OK {
		if s != "" || e != want {
			t.Errorf("PrintPrefix(%v) is %q, %d", p, s, e)
		}
		if back != (api.Prefix{}) || backE != api.ErrForm {
			t.Errorf("ParsePrefix(%q) is %v, %d", text, back, backE)
		}
	} else {
		if s != text || e != api.OK {
			t.Errorf("PrintPrefix(%v) is %q, %d", p, s, e)
		}
		if back != p || backE != api.OK {
			t.Errorf("ParsePrefix(%q) is %v, %d", text, back, backE)
		}
	}
	for _, a := range addresses() {
		if got := Has(p, a); got != slowHas(p, a) {
			t.Errorf("Has(%v, %d) is %t", p, a, got)
		}
	}
}

// One bit of the address is 1: it may stand at each place up to Bits, and at
// none behind.
func TestCheckOfEachBit(t *testing.T) {
	for place := range 32 {
		for n := range 33 {
			want := api.OK
			if place >= n {
				want = api.ErrForm
			}
			if e := Check(api.Prefix{Addr: half >> place, Bits: n}); e != want {
				t.Errorf("Check of bit %d from the front at %d bits is %d", place, n, e)
			}
		}
	}
}

func TestParsePrefixOfWrongTexts(t *testing.T) {
	texts := []string{"", "/", "/8", "10.0.0.0", "10.0.0.0/", "10.0.0.0//8", "10.0.0.0/8/", "/10.0.0.0/8",
		"10.0.0.0/8/8", "10.0.0.0/33", "10.0.0.0/64", "0.0.0.0/33", "0.0.0.0/99", "0.0.0.0/100", "0.0.0.0/320",
		"10.0.0.0/08", "10.0.0.0/008", "0.0.0.0/00", "10.0.0.0/-8", "0.0.0.0/-0", "0.0.0.0/-1", "10.0.0.0/+8",
		"10.0.0.0/ 8", "10.0.0.0 /8", " 10.0.0.0/8", "10.0.0.0/8 ", "10.0.0.0/8\n", "10.0.0.0/a", "10.0.0.0/8a",
		"10.0.0.0/0x8", "10.0.0.0/1_6", "10.0.0.0/8.", "10.0.0.0/8.0", "10.0.0.0/.8", "10.0.0.0/255.0.0.0",
		"10.0.0.0\\8", "10.0.0.0:8", "10.0.0.0.8", "10.0.0/8", "10/8", "10.0.0.0.0/8", "010.0.0.0/8",
		"10.0.0.00/8", "256.0.0.0/8", "-10.0.0.0/8", "+10.0.0.0/8", "ten.0.0.0/8", "8/10.0.0.0",
		"10.0.0.1/8", "10.128.0.0/8", "10.0.0.0/6", "0.0.0.1/0", "128.0.0.0/0", "255.255.255.255/31",
		"10.0.0.1/33", "10.0.0.0/4294967304", "10.0.0.0/18446744073709551624"}
	for _, n := range []int{16, 1000, 1 << 20} {
		texts = append(texts, strings.Repeat("/", n), "10.0.0.0/"+strings.Repeat("0", n)+"8",
			"10.0.0.0/8"+strings.Repeat("0", n), "10.0.0.0/"+strings.Repeat("9", n))
	}
	for _, s := range wrongAddresses() {
		if s != "1.2.3.4/32" && s != "0.0.0.0/0" {
			texts = append(texts, s, s+"/32", s+"/0")
		}
	}
	for _, s := range texts {
		if p, e := ParsePrefix(s); p != (api.Prefix{}) || e != api.ErrForm {
			t.Errorf("ParsePrefix(%.40q) is %v, %d", s, p, e)
		}
	}
}

func TestParsePrefixOfDamagedTexts(t *testing.T) {
	for _, whole := range []string{"0.0.0.0/0", "0.0.0.0/32", "255.255.255.255/32", "128.0.0.0/1", "10.0.0.0/8",
		"10.1.0.0/16", "192.168.0.0/29", "1.2.3.4/30", "1.2.3.4/31", "254.0.0.0/7", "0.0.0.0/3"} {
		for _, s := range damaged(whole) {
			got, e := ParsePrefix(s)
			if want, wantE := slowParsePrefix(s); got != want || e != wantE {
				t.Errorf("ParsePrefix(%q) is %v, %d, not %v, %d", s, got, e, want, wantE)
			}
		}
	}
}

func TestHasOfGivenPrefixes(t *testing.T) {
	ten := api.Prefix{Addr: 10 << 24, Bits: 8}
	cases := []struct {
		name string
		p    api.Prefix
		a    uint32
		want bool
	}{
		{"its first", ten, 10 << 24, true},
		{"one within", ten, 10<<24 + 77, true},
		{"its last", ten, 11<<24 - 1, true},
		{"just behind", ten, 11 << 24, false},
		{"just ahead", ten, 10<<24 - 1, false},
		{"all, the first", api.Prefix{}, 0, true},
		{"all, the last", api.Prefix{}, last, true},
		{"the first alone", api.Prefix{Bits: 32}, 0, true},
		{"the first alone, another", api.Prefix{Bits: 32}, 1, false},
		{"the last alone", api.Prefix{Addr: last, Bits: 32}, last, true},
		{"the last alone, another", api.Prefix{Addr: last, Bits: 32}, last - 1, false},
		{"upper half, its first", api.Prefix{Addr: half, Bits: 1}, half, true},
		{"upper half, just ahead", api.Prefix{Addr: half, Bits: 1}, half - 1, false},
		{"lower half, its last", api.Prefix{Bits: 1}, half - 1, true},
		{"lower half, just behind", api.Prefix{Bits: 1}, half, false},
		{"bits below 0", api.Prefix{Bits: -1}, 0, false},
		{"bits above 32", api.Prefix{Bits: 33}, 0, false},
		{"bits above 32, the address itself", api.Prefix{Addr: 77, Bits: 33}, 77, false},
		{"bits far below 0", api.Prefix{Bits: math.MinInt}, 0, false},
		{"bits far above 32", api.Prefix{Bits: math.MaxInt}, 0, false},
		{"a bit behind is 1, the address itself", api.Prefix{Addr: 10<<24 + 1, Bits: 8}, 10<<24 + 1, false},
		{"a bit behind is 1, the cut address", api.Prefix{Addr: 10<<24 + 1, Bits: 8}, 10 << 24, false},
		{"no bits, and one is 1", api.Prefix{Addr: 1}, 1, false},
	}
	for _, c := range cases {
		if got := Has(c.p, c.a); got != c.want {
			t.Errorf("%s: Has is %t", c.name, got)
		}
	}
}

func TestCoverOfGivenRanges(t *testing.T) {
	cases := []struct {
		from, to uint32
		want     string
	}{
		{1, 6, "0.0.0.1/32 0.0.0.2/31 0.0.0.4/31 0.0.0.6/32"},
		{0, last, "0.0.0.0/0"},
		{0, 0, "0.0.0.0/32"},
		{5, 5, "0.0.0.5/32"},
		{8, 8, "0.0.0.8/32"},
		{half, half, "128.0.0.0/32"},
		{last, last, "255.255.255.255/32"},
		{0, 1, "0.0.0.0/31"},
		{1, 2, "0.0.0.1/32 0.0.0.2/32"},
		{0, 6, "0.0.0.0/30 0.0.0.4/31 0.0.0.6/32"},
		{0, 7, "0.0.0.0/29"},
		{0, 8, "0.0.0.0/29 0.0.0.8/32"},
		{1, 8, "0.0.0.1/32 0.0.0.2/31 0.0.0.4/30 0.0.0.8/32"},
		{4, 11, "0.0.0.4/30 0.0.0.8/30"},
		{0, half - 1, "0.0.0.0/1"},
		{half, last, "128.0.0.0/1"},
		{half - 1, half, "127.255.255.255/32 128.0.0.0/32"},
		{0, half, "0.0.0.0/1 128.0.0.0/32"},
		{half - 1, last, "127.255.255.255/32 128.0.0.0/1"},
		{last - 1, last, "255.255.255.254/31"},
		{last - 2, last, "255.255.255.253/32 255.255.255.254/31"},
		{10 << 24, 11<<24 - 1, "10.0.0.0/8"},
		{10 << 24, 11 << 24, "10.0.0.0/8 11.0.0.0/32"},
	}
	for _, c := range cases {
		list, e := Cover(c.from, c.to)
		var texts []string
		for _, p := range list {
			texts = append(texts, slowPrint(p.Addr)+"/"+strconv.Itoa(p.Bits))
		}
		if got := strings.Join(texts, " "); got != c.want || e != api.OK {
			t.Errorf("Cover(%d, %d) is %q, %d", c.from, c.to, got, e)
		}
	}
}

func TestCoverThatIsLong(t *testing.T) {
	cases := []struct {
		from, to uint32
		want     int
	}{
		{1, last - 1, 62},
		{0, last - 1, 32},
		{1, last, 32},
		{1, half - 1, 31},
		{half, last - 1, 31},
	}
	for _, c := range cases {
		if list, e := Cover(c.from, c.to); len(list) != c.want || e != api.OK {
			t.Errorf("Cover(%d, %d) is %v, %d", c.from, c.to, list, e)
		}
		checkCover(t, c.from, c.to)
	}
}

// fewest is how many prefixes the addresses from from to to need, by trying
// all that may come first; known has what was found for later beginnings.
func fewest(from, to int, known map[int]int) int {
	if from > to {
		return 0
	}
	if n, ok := known[from]; ok {
		return n
	}
	best := math.MaxInt
	for size := 1; size <= all && from%size == 0 && from+size-1 <= to; size *= 2 {
		best = min(best, 1+fewest(from+size, to, known))
	}
	known[from] = best
	return best
}

// All ranges within 48 addresses, at both ends of all, and in the middle.
func TestCoverIsTheFewest(t *testing.T) {
	const wide = 48
	for _, base := range []int{0, 256 - wide/2, half - wide/2, all - wide} {
		for from := base; from < base+wide; from++ {
			for to := from; to < base+wide; to++ {
				list, _ := Cover(uint32(from), uint32(to))
				if want := fewest(from, to, map[int]int{}); len(list) != want {
					t.Fatalf("Cover(%d, %d) is %v, and %d would do", from, to, list, want)
				}
				checkCover(t, uint32(from), uint32(to))
			}
		}
	}
}

func TestCoverOfManyRanges(t *testing.T) {
	for _, from := range addresses() {
		for _, to := range addresses() {
			checkCover(t, from, to)
		}
	}
}

// checkCover asks that the prefixes stand one behind the other, from the first
// address to the last, and that no two of them are the halves of one: then
// there is no way with fewer.
func checkCover(t *testing.T, from, to uint32) {
	t.Helper()
	list, e := Cover(from, to)
	if from > to {
		if len(list) != 0 || e != api.ErrArg {
			t.Errorf("Cover(%d, %d) is %v, %d", from, to, list, e)
		}
		return
	}
	at := int(from)
	for i, p := range list {
		if slowCheck(p) != api.OK || int(p.Addr) != at {
			t.Fatalf("Cover(%d, %d) is %v: wrong at %d", from, to, list, i)
		}
		size := 1 << (32 - p.Bits)
		if i > 0 && list[i-1].Bits == p.Bits && int(list[i-1].Addr)%(2*size) == 0 {
			t.Errorf("Cover(%d, %d) is %v: %d and the one ahead are one", from, to, list, i)
		}
		at += size
	}
	if at != int(to)+1 || e != api.OK {
		t.Errorf("Cover(%d, %d) is %v, %d: it ends ahead of %d", from, to, list, e, at)
	}
}

func TestCoverOfFromAboveTo(t *testing.T) {
	for _, c := range [][2]uint32{{1, 0}, {6, 1}, {last, 0}, {last, last - 1}, {half, half - 1}} {
		if list, e := Cover(c[0], c[1]); len(list) != 0 || e != api.ErrArg {
			t.Errorf("Cover(%d, %d) is %v, %d", c[0], c[1], list, e)
		}
	}
}

// P2: a list that was answered, its spare room included, is the caller's own.
func TestCoverIsNewMemory(t *testing.T) {
	first, _ := Cover(1, last-1)
	want := slices.Clone(first)
	for i := range first[:cap(first)] {
		first[:cap(first)][i] = api.Prefix{Addr: 7, Bits: 7}
	}
	second, _ := Cover(1, last-1)
	if !slices.Equal(second, want) {
		t.Fatalf("behind a list that was written into Cover is %v", second)
	}
	for i := range first[:cap(first)] {
		first[:cap(first)][i] = api.Prefix{Addr: 9, Bits: 9}
	}
	if !slices.Equal(second, want) {
		t.Errorf("two lists share memory: %v", second)
	}
}

// P2: what a call answers hangs on nothing that was handed to another one.
func TestNothingIsKept(t *testing.T) {
	for _, a := range addresses() {
		for _, n := range counts() {
			p := api.Prefix{Addr: a, Bits: n}
			Check(p)
			PrintPrefix(p)
			Has(p, a)
			ParsePrefix(Print(a) + "/" + strconv.Itoa(n))
			Parse(Print(a) + strconv.Itoa(n))
			Cover(a, last)
			got, e := Parse("1.2.3.4")
			ten, tenE := ParsePrefix("10.0.0.0/8")
			if got != 0x01020304 || e != api.OK || ten != (api.Prefix{Addr: 10 << 24, Bits: 8}) || tenE != api.OK {
				t.Fatalf("behind %v Parse or ParsePrefix answers otherwise", p)
			}
			if Print(7) != "0.0.0.7" || Check(ten) != api.OK || !Has(ten, 10<<24+1) || Has(ten, 1) {
				t.Fatalf("behind %v Print, Check or Has answers otherwise", p)
			}
			if list, e := Cover(2, 3); len(list) != 1 || list[0] != (api.Prefix{Addr: 2, Bits: 31}) || e != api.OK {
				t.Fatalf("behind %v Cover is %v, %d", p, list, e)
			}
		}
	}
}
