package sum

import (
	"strings"
	"testing"
)

const head = "\x45\x00\x00\x73\x00\x00\x40\x00\x40\x11\x00\x00\xc0\xa8\x00\x01\xc0\xa8\x00\xc7"

// slowSum goes by the chapter's words in another way than Sum does: it lays
// the byte 0 behind an odd text, and adds what goes beyond at each word.
func slowSum(s string) uint16 {
	if len(s)%2 == 1 {
		s += "\x00"
	}
	total := 0
	for ; s != ""; s = s[2:] {
		total += int(s[0])*256 + int(s[1])
		if total >= 65536 {
			total -= 65535
		}
	}
	return uint16(total)
}

// texts are of all lengths from 0 to 40, each of them in several ways: low
// bytes, high bytes that make sums go beyond, zeros, and some of each.
func texts() []string {
	var all []string
	for n := range 41 {
		mixed := make([]byte, n)
		rising := make([]byte, n)
		for i := range n {
			mixed[i] = byte(i*i*37 + n*91 + 200)
			rising[i] = byte(i)
		}
		all = append(all, string(mixed), string(rising),
			strings.Repeat("\xff", n), strings.Repeat("\x00", n))
	}
	return all
}

func TestSumOfGivenTexts(t *testing.T) {
	cases := []struct {
		name string
		text string
		want uint16
	}{
		{"empty", "", 0},
		{"one byte", "\x01", 0x0100},
		{"one high byte", "\xff", 0xff00},
		{"one word", "\x12\x34", 0x1234},
		{"three bytes", "\x12\x34\x56", 0x6834},
		{"letters", "abc", 0xc462},
		{"zeros", "\x00\x00\x00\x00", 0},
		{"odd zeros", "\x00\x00\x00", 0},
		{"just 16 bits", "\xff\xfe\x00\x01", 0xffff},
		{"just beyond", "\xff\xff\x00\x01", 1},
		{"beyond by an odd byte", "\xff\xff\x01", 0x0100},
		{"twice all bits", "\xff\xff\xff\xff", 0xffff},
		{"beyond, and by that beyond anew", "\xff\xff\xff\xff\x00\x01", 1},
		{"a head", head, 0x479e},
		{"RFC 1071's bytes", "\x00\x01\xf2\x03\xf4\xf5\xf6\xf7", 0xddf2},
	}
	for _, c := range cases {
		if got := Sum(c.text); got != c.want {
			t.Errorf("%s: Sum is %#04x, not %#04x", c.name, got, c.want)
		}
		if got := Check(c.text); got != 0xffff-c.want {
			t.Errorf("%s: Check is %#04x, not %#04x", c.name, got, 0xffff-c.want)
		}
	}
}

func TestSumOfManyTexts(t *testing.T) {
	for _, s := range texts() {
		want := slowSum(s)
		if got := Sum(s); got != want {
			t.Errorf("Sum(%q) is %#04x, not %#04x", s, got, want)
		}
		if got := Check(s); got != 0xffff-want {
			t.Errorf("Check(%q) is %#04x, not %#04x", s, got, 0xffff-want)
		}
	}
}

func TestSumOfEveryWord(t *testing.T) {
	for n := range 1 << 16 {
		s := string([]byte{byte(n >> 8), byte(n)})
		if got := Sum(s); got != uint16(n) {
			t.Fatalf("Sum(%q) is %#04x", s, got)
		}
		if got := Check(s); got != uint16(0xffff-n) {
			t.Fatalf("Check(%q) is %#04x", s, got)
		}
	}
}

// The words of these texts come to more than 32 bits.
func TestSumOfLongTexts(t *testing.T) {
	for _, n := range []int{131073, 131074, 131075, 131076, 131077, 1 << 20, 1<<20 + 1} {
		full := strings.Repeat("\xff", n)
		for _, s := range []string{full, full + "\x00\x01", "\x80\x01" + full} {
			if got, want := Sum(s), slowSum(s); got != want {
				t.Errorf("Sum of %d bytes is %#04x, not %#04x", len(s), got, want)
			}
		}
	}
}

// A text that has its own Check in it has the Check 0.
func TestCheckOfTextWithItsCheck(t *testing.T) {
	for _, s := range texts() {
		if len(s)%2 == 1 {
			s += "\x00"
		}
		c := Check(s)
		if got := Check(s + string([]byte{byte(c >> 8), byte(c)})); got != 0 {
			t.Errorf("Check of %q with its Check is %#04x", s, got)
		}
	}
}

func TestJoinOfGivenSums(t *testing.T) {
	cases := []struct {
		a    uint16
		odd  bool
		b    uint16
		want uint16
	}{
		{0, false, 0, 0},
		{0, true, 0, 0},
		{0x1234, false, 0, 0x1234},
		{0x1234, true, 0, 0x1234},
		{0, false, 0x1234, 0x1234},
		{0, true, 0x1234, 0x3412},
		{0x0100, false, 0x0203, 0x0303},
		{0x0100, true, 0x0203, 0x0402},
		{0xfffe, false, 1, 0xffff},
		{0xffff, false, 1, 1},
		{0xffff, true, 1, 0x0100},
		{0xff00, false, 0x00ff, 0xffff},
		{0xff00, true, 0x00ff, 0xfe01},
		{0xffff, false, 0xffff, 0xffff},
		{0xffff, true, 0xffff, 0xffff},
		{0x8000, false, 0x8000, 1},
	}
	for _, c := range cases {
		if got := Join(c.a, c.odd, c.b); got != c.want {
			t.Errorf("Join(%#04x, %t, %#04x) is %#04x, not %#04x", c.a, c.odd, c.b, got, c.want)
		}
	}
}

// Each text is cut at each place, so that the first piece, and the second, is
// empty, odd and even.
func TestJoinOfPieces(t *testing.T) {
	for _, s := range texts() {
		for at := 0; at <= len(s); at++ {
			got := Join(Sum(s[:at]), at%2 == 1, Sum(s[at:]))
			if want := slowSum(s); got != want {
				t.Errorf("Join of %q and %q is %#04x, not %#04x", s[:at], s[at:], got, want)
			}
		}
	}
}

func TestUpdateOfGivenChecks(t *testing.T) {
	cases := []struct {
		name            string
		check, was, now uint16
		want            uint16
	}{
		{"a head", 0xb861, 0x4011, 0x4012, 0xb860},
		{"RFC 1624's example", 0xdd2f, 0x5555, 0x3285, 0},
		{"the same word", 0xb861, 0x4011, 0x4011, 0xb861},
		{"nothing at all", 0xffff, 0xffff, 0, 0xffff},
		{"just 16 bits", 0x0001, 0xffff, 0x0001, 0},
		{"just beyond", 0, 0xffff, 1, 0xfffe},
		{"beyond, and by that beyond anew", 0, 0, 1, 0xfffe},
		{"twice all bits", 0, 0, 0, 0},
		{"three times all bits", 0, 0, 0xffff, 0},
		{"zeros from now on", 0xedcb, 0x1234, 0, 0},
		{"zeros as ever", 0xffff, 0, 0, 0},
	}
	for _, c := range cases {
		if got := Update(c.check, c.was, c.now); got != c.want {
			t.Errorf("%s: Update is %#04x, not %#04x", c.name, got, c.want)
		}
	}
}

// Numbers of which no text can be made are answered by the rule, too.
func TestUpdateByTheRule(t *testing.T) {
	numbers := []int{0, 1, 2, 0xff, 0x100, 0x1234, 0x7fff, 0x8000, 0xff00, 0xfffe, 0xffff}
	for _, check := range numbers {
		for _, was := range numbers {
			for _, now := range numbers {
				total := 65535 - check + 65535 - was + now
				for total > 65535 {
					total -= 65535
				}
				got := Update(uint16(check), uint16(was), uint16(now))
				if want := uint16(65535 - total); got != want {
					t.Errorf("Update(%#04x, %#04x, %#04x) is %#04x, not %#04x", check, was, now, got, want)
				}
			}
		}
	}
}

// A word of each text is exchanged, and the Check of what comes of it is
// worked out anew; zeros alone are left to the given checks.
func TestUpdateOfTexts(t *testing.T) {
	for _, s := range texts() {
		for at := 0; at+2 <= len(s); at += 2 {
			for _, word := range []string{"\x00\x00", "\x00\x01", "\x01\x00", "\x80\x7f", "\xff\xfe", "\xff\xff"} {
				changed := s[:at] + word + s[at+2:]
				want := 0xffff - slowSum(changed)
				if want == 0xffff {
					continue
				}
				if got := Update(Check(s), Sum(s[at:at+2]), Sum(word)); got != want {
					t.Errorf("%q to %q: Update is %#04x, not %#04x", s, changed, got, want)
				}
			}
		}
	}
}

// P2: what a call answers hangs on nothing that was handed to another one.
func TestNothingIsKept(t *testing.T) {
	for _, s := range texts() {
		Sum(s)
		Check(s)
		Join(Sum(s), true, 0xffff)
		Update(Check(s), 1, 2)
		if Sum("abc") != 0xc462 || Check("abc") != 0x3b9d {
			t.Fatalf("behind %q the sums of abc are others", s)
		}
		if Join(0x0100, true, 0x0203) != 0x0402 || Update(0xb861, 0x4011, 0x4012) != 0xb860 {
			t.Fatalf("behind %q Join or Update answers otherwise", s)
		}
	}
}
