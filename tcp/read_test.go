package tcp

import (
	"slices"
	"strings"
	"testing"
	"unsafe"

	"packetboat/api"
)

// readCase is a text by its name, and what Read, between the addresses of
// plain and begin, says of it.
type readCase struct {
	name string
	s    string
	want api.Errno
}

func checkReads(t *testing.T, cases []readCase) {
	t.Helper()
	src, dst := plain().From.Addr, plain().To.Addr
	for _, c := range cases {
		g, e := Read(src, dst, c.s)
		if e != c.want {
			t.Errorf("%s: Read is %d, not %d", c.name, e, c.want)
		}
		if e != api.OK && g != (api.Seg{}) {
			t.Errorf("%s: Read tells %#v beside an error", c.name, brief(g))
		}
		checkRead(t, src, dst, c.s)
	}
}

// well is s with other bytes at at, and summed again.
func well(s string, at int, other string) string {
	return summed(plain().From.Addr, plain().To.Addr, put(s, at, other))
}

func TestReadOfSizes(t *testing.T) {
	s, _ := Write(plain())
	empty, _ := Write(with(func(g *api.Seg) { g.Body = "" }))
	syn, _ := Write(begin())
	full := slowBytes(begin(), strings.Repeat("\x01", 40))
	long := slowBytes(with(func(g *api.Seg) { g.Body = some(1001) }), "")
	checkReads(t, []readCase{
		{"as it is written", s, api.OK},
		{"an empty one, as it is written", empty, api.OK},
		{"one with an option, as it is written", syn, api.OK},
		{"nothing", "", api.ErrShort},
		{"a byte", s[:1], api.ErrShort},
		{"13 bytes", s[:13], api.ErrShort},
		{"19 bytes", s[:19], api.ErrShort},
		{"19 bytes of an empty one", empty[:19], api.ErrShort},
		{"20 bytes of 25", s[:20], api.ErrSum},
		{"20 bytes of 25, well summed", well(s[:20], 0, ""), api.OK},
		{"a byte more", s + "!", api.ErrSum},
		{"a byte more, well summed", well(s+"!", 0, ""), api.OK},
		{"a byte 0 more", s + "\x00", api.ErrSum},
		{"0 words", well(s, 12, "\x00"), api.ErrForm},
		{"1 word", well(s, 12, "\x10"), api.ErrForm},
		{"4 words", well(s, 12, "\x40"), api.ErrForm},
		{"5 words", well(s, 12, "\x50"), api.OK},
		{"6 words, of which one lacks", well(empty, 12, "\x60"), api.ErrShort},
		{"6 words, and 24 bytes", syn, api.OK},
		{"6 words, and 23 bytes", syn[:23], api.ErrShort},
		{"6 words, and 21 bytes", syn[:21], api.ErrShort},
		{"6 words, and 20 bytes", syn[:20], api.ErrShort},
		{"6 words, and 19 bytes", syn[:19], api.ErrShort},
		{"15 words, and 60 bytes", full, api.OK},
		{"15 words, and 61 bytes", well(full+"!", 0, ""), api.OK},
		{"15 words, and 59 bytes", full[:59], api.ErrShort},
		{"15 words, and 25 bytes", well(s, 12, "\xf0"), api.ErrShort},
		{"15 words, and 20 bytes", well(empty, 12, "\xf0"), api.ErrShort},
		{"the lowest bit beside the words", well(s, 12, "\x51"), api.ErrForm},
		{"the second one", well(s, 12, "\x52"), api.ErrForm},
		{"the third one", well(s, 12, "\x54"), api.ErrForm},
		{"the fourth one", well(s, 12, "\x58"), api.ErrForm},
		{"all four", well(s, 12, "\x5f"), api.ErrForm},
		{"15 words, and all four, of 60 bytes", well(full, 12, "\xff"), api.ErrForm},
		{"a Body of 1001", long, api.ErrLarge},
		{"a Body of 1000 of these", well(long[:1020], 0, ""), api.OK},
		{"a Body of 2^16", slowBytes(with(func(g *api.Seg) { g.Body = some(1 << 16) }), ""), api.ErrLarge},
		{"a Body of 2^16, wrongly summed", s + some(1<<16), api.ErrSum},
		{"a Body of 2^20", slowBytes(with(func(g *api.Seg) { g.Body = some(1 << 20) }), ""), api.ErrLarge},
	})
}

func TestReadOfSumsAndFlags(t *testing.T) {
	s, _ := Write(plain())
	bare, _ := Write(with(func(g *api.Seg) { g.Ack, g.HasAck = 0, false }))
	checkReads(t, []readCase{
		{"wrong by the lowest bit", turned(s, 17, 1), api.ErrSum},
		{"wrong by the highest bit", turned(s, 16, 128), api.ErrSum},
		{"the sum with its bits turned", turned(turned(s, 16, 255), 17, 255), api.ErrSum},
		{"the sum turned round", put(s, 16, string([]byte{s[17], s[16]})), api.ErrSum},
		{"a sum of 0", put(s, 16, "\x00\x00"), api.ErrSum},
		{"a sum of 65535", put(s, 16, "\xff\xff"), api.ErrSum},
		{"another Body", put(s, 20, "world"), api.ErrSum},
		{"two words of Body exchanged", put(s, 20, "llheo"), api.OK},
		{"another Seq", turned(s, 7, 1), api.ErrSum},
		{"another Win", turned(s, 15, 1), api.ErrSum},
		{"no flag", well(bare, 13, "\x00"), api.OK},
		{"1", well(bare, 13, "\x01"), api.OK},
		{"2", well(bare, 13, "\x02"), api.OK},
		{"4", well(bare, 13, "\x04"), api.OK},
		{"8", well(bare, 13, "\x08"), api.OK},
		{"16", well(bare, 13, "\x10"), api.OK},
		{"32", well(bare, 13, "\x20"), api.ErrForm},
		{"64", well(bare, 13, "\x40"), api.ErrForm},
		{"128", well(bare, 13, "\x80"), api.ErrForm},
		{"8 beside 16", well(s, 13, "\x18"), api.OK},
		{"32 beside 16", well(s, 13, "\x30"), api.ErrForm},
		{"all", well(s, 13, "\xff"), api.ErrForm},
		{"1, 2, 4, 8, 16", well(s, 13, "\x1f"), api.ErrForm},
		{"1 and 2", well(s, 13, "\x13"), api.ErrForm},
		{"2 and 4", well(s, 13, "\x16"), api.ErrForm},
		{"1 and 4", well(s, 13, "\x15"), api.ErrForm},
		{"an Ack without 16", well(s, 13, "\x00"), api.ErrForm},
		{"an Ack with 8 in the place of 16", well(s, 13, "\x08"), api.ErrForm},
		{"the last but one of the 20 is 1", well(s, 18, "\x01\x00"), api.ErrForm},
		{"the last but one of the 20 is 128", well(s, 18, "\x80\x00"), api.ErrForm},
		{"the last one of the 20 is 1", well(s, 18, "\x00\x01"), api.ErrForm},
		{"the last one of the 20 is 128", well(s, 18, "\x00\x80"), api.ErrForm},
		{"both of them", well(s, 18, "\xff\xff"), api.ErrForm},
		{"From 0", well(s, 0, "\x00\x00"), api.ErrArg},
		{"To 0", well(s, 2, "\x00\x00"), api.ErrArg},
		{"From 65535", well(s, 0, "\xff\xff"), api.OK},
		{"To 1", well(s, 2, "\x00\x01"), api.OK},
		{"Win 65535", well(s, 14, "\xff\xff"), api.OK},
		{"Win 0", well(s, 14, "\x00\x00"), api.OK},
	})
}

// A flag 8 says nothing: the segment is the one without it.
func TestReadOfPush(t *testing.T) {
	for _, g := range []api.Seg{plain(), begin(), with(func(g *api.Seg) { g.Fin = true }), with(func(g *api.Seg) { g.Rst = true })} {
		s, _ := Write(g)
		pushed := well(s, 13, string([]byte{s[13] | 8}))
		if got, e := Read(g.From.Addr, g.To.Addr, pushed); got != g || e != api.OK {
			t.Errorf("Read is %#v, %d, not %#v", got, e, g)
		}
	}
}

// Of several faults the one that is told first is the answer.
func TestReadOfSeveralFaults(t *testing.T) {
	s, _ := Write(plain())
	wrong := turned(s, 17, 1)
	long := slowBytes(with(func(g *api.Seg) { g.Body = some(1001) }), "")
	option := slowBytes(with(func(g *api.Seg) { g.Syn = true }), "\x02\x03\x00\x00")
	checkReads(t, []readCase{
		{"19 bytes, and 4 words", put(s, 12, "\x40")[:19], api.ErrShort},
		{"19 bytes, and a stray bit", put(s, 12, "\x51")[:19], api.ErrShort},
		{"4 words, and a wrong sum", put(wrong, 12, "\x40"), api.ErrForm},
		{"4 words, and From 0", well(put(s, 12, "\x40"), 0, "\x00\x00"), api.ErrForm},
		{"a stray bit, and bytes lack", well(s, 12, "\x71"), api.ErrForm},
		{"a stray bit, and a wrong sum", put(wrong, 12, "\x51"), api.ErrForm},
		{"bytes lack, and a wrong sum", put(wrong, 12, "\x70"), api.ErrShort},
		{"bytes lack, and a flag 32", well(put(s, 12, "\x70"), 13, "\x30"), api.ErrShort},
		{"bytes lack, and the last one of the 20", well(put(s, 12, "\x70"), 19, "\x01"), api.ErrShort},
		{"bytes lack, and From 0", well(put(s, 12, "\x70"), 0, "\x00\x00"), api.ErrShort},
		{"a wrong sum, and a flag 32", turned(well(s, 13, "\x30"), 17, 1), api.ErrSum},
		{"a wrong sum, and the last one of the 20", turned(well(s, 19, "\x01"), 17, 1), api.ErrSum},
		{"a wrong sum, and an option", turned(option, 17, 1), api.ErrSum},
		{"a wrong sum, and From 0", turned(well(s, 0, "\x00\x00"), 17, 1), api.ErrSum},
		{"a wrong sum, and Syn beside Fin", turned(well(s, 13, "\x13"), 17, 1), api.ErrSum},
		{"a wrong sum, and a Body of 1001", turned(long, 17, 1), api.ErrSum},
		{"a flag 32, and From 0", well(put(s, 13, "\x30"), 0, "\x00\x00"), api.ErrForm},
		{"a flag 32, and a Body of 1001", well(long, 13, "\x30"), api.ErrForm},
		{"the last one of the 20, and To 0", well(put(s, 19, "\x01"), 2, "\x00\x00"), api.ErrForm},
		{"the last one of the 20, and a Body of 1001", well(long, 19, "\x01"), api.ErrForm},
		{"an option, and From 0", well(option, 0, "\x00\x00"), api.ErrForm},
		{"an option, and To 0", well(option, 2, "\x00\x00"), api.ErrForm},
		{"an option, and a Body of 1001", well(option+some(1001-5), 0, ""), api.ErrForm},
		{"From 0, and Syn beside Fin", well(put(s, 13, "\x13"), 0, "\x00\x00"), api.ErrArg},
		{"To 0, and an Ack without 16", well(put(s, 13, "\x00"), 2, "\x00\x00"), api.ErrArg},
		{"To 0, and a Body of 1001", well(long, 2, "\x00\x00"), api.ErrArg},
		{"Fin beside Rst, and a Body of 1001", well(long, 13, "\x15"), api.ErrForm},
		{"an Ack without 16, and a Body of 1001", well(long, 13, "\x00"), api.ErrForm},
	})
}

// optionCase is what stands between head and Body, and what comes of it in a
// segment with Syn.
type optionCase struct {
	name    string
	options string
	mss     int
	want    api.Errno
}

func checkOptions(t *testing.T, cases []optionCase) {
	t.Helper()
	for _, c := range cases {
		// In Body stands what would go on with an option, or be one.
		for _, body := range []string{"", "\x02\x04\x03\x09", "\x04\x04\x04\x04\x04\x04\x04\x04", "\x00", "\xff", "hello"} {
			g := with(func(g *api.Seg) { g.Syn, g.Body = true, body })
			s := slowBytes(g, c.options)
			g.Mss = c.mss
			if c.want != api.OK {
				g = api.Seg{}
			}
			got, e := Read(plain().From.Addr, plain().To.Addr, s)
			if got != g || e != c.want {
				t.Errorf("%s: Read with a Body of %q is %#v, %d, not %#v, %d", c.name, body, got, e, g, c.want)
			}
			checkRead(t, plain().From.Addr, plain().To.Addr, s)
		}
	}
}

func TestReadOfPlainOptions(t *testing.T) {
	checkOptions(t, []optionCase{
		{"none", "", 0, api.OK},
		{"0", "\x00\x00\x00\x00", 0, api.OK},
		{"0 with an Mss behind it", "\x00\x02\x04\x07\x00\x00\x00\x00", 0, api.OK},
		{"0 with an Mss in the next word", "\x00\x00\x00\x00\x02\x04\x01\x02", 0, api.OK},
		{"0 with something behind it that is in no form", "\x00\x02\x00\x07", 0, api.OK},
		{"0 with something behind it that reaches into Body", "\x00\x03\xff\xff", 0, api.OK},
		{"0 with a kind behind it that has no length", "\x00\x00\x00\x02", 0, api.OK},
		{"an Mss with 0 behind it, and another", "\x02\x04\x01\x02\x00\x02\x04\x03\x04\x00\x00\x00", 0x102, api.OK},
		{"an Mss with 0 behind it, and what is in no form", "\x02\x04\x01\x02\x00\x02\x03\x04", 0x102, api.OK},
		{"1", "\x01\x00\x00\x00", 0, api.OK},
		{"1 several times", "\x01\x01\x01\x01", 0, api.OK},
		{"1 in ten words", strings.Repeat("\x01", 40), 0, api.OK},
		{"1 ahead of an Mss", "\x01\x02\x04\x01\x02\x00\x00\x00", 0x102, api.OK},
		{"1 several times ahead of an Mss", "\x01\x01\x01\x01\x02\x04\x01\x02", 0x102, api.OK},
		{"1 several times ahead of an Mss that reaches Body", "\x01\x01\x01\x02\x04\x01\x02\x01", 0x102, api.OK},
		{"1 several times behind an Mss", "\x02\x04\x01\x02\x01\x01\x01\x01", 0x102, api.OK},
		{"1, and 0 with something behind it", "\x01\x00\x02\x01", 0, api.OK},
		{"1 ahead of what is in no form", "\x01\x01\x05\x00", 0, api.ErrForm},
		{"1 as what another one says", "\x05\x04\x01\x01", 0, api.OK},
		{"0 as what another one says", "\x05\x04\x00\x00\x02\x04\x01\x02", 0x102, api.OK},
	})
}

func TestReadOfOptionLengths(t *testing.T) {
	checkOptions(t, []optionCase{
		{"a length that lacks", "\x01\x01\x01\x03", 0, api.ErrForm},
		{"a length that lacks, of 2", "\x01\x01\x01\x02", 0, api.ErrForm},
		{"a length that lacks, of 255", "\x01\x01\x01\xff", 0, api.ErrForm},
		{"a length that lacks behind an Mss", "\x02\x04\x01\x02\x01\x01\x01\x08", 0, api.ErrForm},
		{"a length that lacks behind another one", "\x08\x03\x00\x08", 0, api.ErrForm},
		{"a length of 0", "\x03\x00\x00\x00", 0, api.ErrForm},
		{"a length of 1", "\x03\x01\x00\x00", 0, api.ErrForm},
		{"a length of 0, of 2", "\x02\x00\x01\x02", 0, api.ErrForm},
		{"a length of 1, of 2", "\x02\x01\x01\x02", 0, api.ErrForm},
		{"a length of 0 at the end", "\x01\x01\x03\x00", 0, api.ErrForm},
		{"a length of 1 at the end", "\x01\x01\x03\x01", 0, api.ErrForm},
		{"a length of 2", "\x03\x02\x00\x00", 0, api.OK},
		{"a length of 2 twice", "\x03\x02\x04\x02", 0, api.OK},
		{"a length of 2 that just reaches Body", "\x01\x01\x04\x02", 0, api.OK},
		{"a length of 2, then what is in no form", "\x03\x02\x03\x01", 0, api.ErrForm},
		{"a length of 3, with 1 behind it", "\x03\x03\x09\x01", 0, api.OK},
		{"a length that just reaches Body", "\x03\x04\x09\x09", 0, api.OK},
		{"a length that reaches into Body by one", "\x03\x05\x09\x09", 0, api.ErrForm},
		{"a length that just reaches Body behind 1", "\x01\x03\x03\x09", 0, api.OK},
		{"a length that reaches into Body by one behind 1", "\x01\x03\x04\x09", 0, api.ErrForm},
		{"a length that reaches far into Body", "\x03\xff\x09\x09", 0, api.ErrForm},
		{"a length of 127", "\x03\x7f\x09\x09", 0, api.ErrForm},
		{"a length of 128", "\x03\x80\x09\x09", 0, api.ErrForm},
		{"40 bytes in one option", "\xfe\x28" + strings.Repeat("\x02", 38), 0, api.OK},
		{"41 bytes in one option of 40", "\xfe\x29" + strings.Repeat("\x02", 38), 0, api.ErrForm},
		{"the last of several reaches into Body", "\x02\x04\x01\x02\x03\x03\x09\x04\x04\x02\x05\x03", 0, api.ErrForm},
		{"the last of several just reaches Body", "\x02\x04\x01\x02\x03\x03\x09\x04\x03\x02\x05\x02", 0x102, api.OK},
	})
}

func TestReadOfMssOptions(t *testing.T) {
	checkOptions(t, []optionCase{
		{"2 with 2 bytes", "\x02\x02\x00\x00", 0, api.ErrForm},
		{"2 with 3 bytes", "\x02\x03\x01\x00", 0, api.ErrForm},
		{"2 with 4 bytes", "\x02\x04\x01\x02", 0x102, api.OK},
		{"2 with 5 bytes", "\x02\x05\x01\x02\x03\x00\x00\x00", 0, api.ErrForm},
		{"2 with 8 bytes", "\x02\x08\x01\x02\x03\x04\x05\x06", 0, api.ErrForm},
		{"2 with 4 bytes, of which one lacks", "\x01\x02\x04\x01", 0, api.ErrForm},
		{"2 with 4 bytes, of which two lack", "\x01\x01\x02\x04", 0, api.ErrForm},
		{"2 with 3 bytes that just reach Body", "\x01\x02\x03\x01", 0, api.ErrForm},
		{"an Mss of 0", "\x02\x04\x00\x00", 0, api.OK},
		{"an Mss of 1", "\x02\x04\x00\x01", 1, api.OK},
		{"an Mss of 65535", "\x02\x04\xff\xff", 65535, api.OK},
		{"two, the last one counts", "\x02\x04\x01\x02\x02\x04\x03\x04", 0x304, api.OK},
		{"two, the last one is lower", "\x02\x04\x03\x04\x02\x04\x01\x02", 0x102, api.OK},
		{"two, the last one is 0", "\x02\x04\x01\x02\x02\x04\x00\x00", 0, api.OK},
		{"two, the last one is in no form", "\x02\x04\x01\x02\x02\x03\x03\x04", 0, api.ErrForm},
		{"two, the first one is in no form", "\x02\x03\x01\x01\x02\x04\x03\x04", 0, api.ErrForm},
		{"ten", strings.Repeat("\x02\x04\x01\x02", 9) + "\x02\x04\x05\x06", 0x506, api.OK},
		{"one that is not known ahead of it", "\x03\x03\x07\x02\x04\x01\x02\x00", 0x102, api.OK},
		{"one of 2 bytes that is not known ahead of it", "\x04\x02\x02\x04\x01\x02\x01\x01", 0x102, api.OK},
		{"one of 10 bytes that is not known ahead of it", "\x08\x0a\x02\x04\x09\x09\x02\x04\x08\x08\x02\x04\x01\x02\x00\x00", 0x102, api.OK},
		{"one of 255 ahead of it", "\xff\x04\x02\x04\x02\x04\x01\x02", 0x102, api.OK},
		{"one that is not known behind it", "\x02\x04\x01\x02\x03\x03\x07\x00", 0x102, api.OK},
		{"one that is not known between two", "\x02\x04\x01\x02\x03\x04\x02\x04\x02\x04\x03\x04", 0x304, api.OK},
	})
}

// An Mss without Syn is in no form; one of 0 is none.
func TestReadOfMssWithoutSyn(t *testing.T) {
	checkReads(t, []readCase{
		{"an Mss without Syn", slowBytes(plain(), "\x02\x04\x01\x02"), api.ErrForm},
		{"an Mss of 0 without Syn", slowBytes(plain(), "\x02\x04\x00\x00"), api.OK},
		{"two without Syn, the last one is 0", slowBytes(plain(), "\x02\x04\x01\x02\x02\x04\x00\x00"), api.OK},
		{"two without Syn, the first one is 0", slowBytes(plain(), "\x02\x04\x00\x00\x02\x04\x01\x02"), api.ErrForm},
		{"an Mss behind 0 without Syn", slowBytes(plain(), "\x00\x02\x04\x01\x02\x00\x00\x00"), api.OK},
		{"one that is not known without Syn", slowBytes(plain(), "\x03\x03\x07\x00"), api.OK},
		{"2 with 3 bytes without Syn", slowBytes(plain(), "\x02\x03\x07\x00"), api.ErrForm},
		{"an Mss without Syn, and From 0", well(slowBytes(plain(), "\x02\x04\x01\x02"), 0, "\x00\x00"), api.ErrArg},
	})
}

// All options of one word of these bytes, and many of more words.
func TestReadOfManyOptions(t *testing.T) {
	bytes := "\x00\x01\x02\x03\x04\x05\x06\x08\xff"
	src, dst := plain().From.Addr, plain().To.Addr
	syn := with(func(g *api.Seg) { g.Syn = true })
	for n := range len(bytes) * len(bytes) * len(bytes) * len(bytes) {
		var options [4]byte
		for i := range options {
			options[i] = bytes[n%len(bytes)]
			n /= len(bytes)
		}
		checkRead(t, src, dst, slowBytes(syn, string(options[:])))
		checkRead(t, src, dst, slowBytes(plain(), string(options[:])))
	}
	l := lot(17)
	seen := map[api.Errno]int{}
	for range 100000 {
		options := make([]byte, 4*l.draw(11))
		for i := range options {
			options[i] = bytes[l.draw(len(bytes))]
			if i%4 == 1 && l.draw(2) == 0 {
				options[i-1], options[i] = 2, 4
			}
		}
		s := slowBytes(syn, string(options))
		checkRead(t, src, dst, s)
		_, e := Read(src, dst, s)
		seen[e]++
	}
	if seen[api.OK] < 1000 || seen[api.ErrForm] < 1000 {
		t.Errorf("of the options that were drawn so many are answered by each error: %v", seen)
	}
}

// The addresses are not among the bytes, but they are summed with them.
func TestReadWithOtherAddrs(t *testing.T) {
	for _, g := range []api.Seg{plain(), begin()} {
		src, dst := g.From.Addr, g.To.Addr
		s, _ := Write(g)
		pairs := [][2]uint32{{0, 0}, {0, dst}, {src, 0}, {src, src}, {dst, dst}, {src + 1, dst + 1}}
		for bit := range 32 {
			pairs = append(pairs, [2]uint32{src ^ 1<<bit, dst}, [2]uint32{src, dst ^ 1<<bit})
		}
		for _, pair := range pairs {
			if got, e := Read(pair[0], pair[1], s); got != (api.Seg{}) || e != api.ErrSum {
				t.Errorf("Read(%#x, %#x) is %#v, %d", pair[0], pair[1], got, e)
			}
		}
		if got, e := Read(src, dst, s); got != g || e != api.OK {
			t.Errorf("Read is %#v, %d, not %#v", got, e, g)
		}
	}
}

// A sum doesn't tell in which order its words stand: the addresses exchanged
// have the same one, and are told as they are handed in.
func TestReadWithExchangedAddrs(t *testing.T) {
	g := plain()
	s, _ := Write(g)
	want := g
	want.From.Addr, want.To.Addr = g.To.Addr, g.From.Addr
	if got, e := Read(g.To.Addr, g.From.Addr, s); got != want || e != api.OK {
		t.Errorf("Read is %#v, %d, not %#v", got, e, want)
	}
}

// What is damaged at one byte is never taken for another segment.
func TestReadOfOneDamagedByte(t *testing.T) {
	odd, even := plain(), with(func(g *api.Seg) { g.Body = "ab" })
	for _, g := range []api.Seg{odd, even, begin(), zeroSum()} {
		src, dst := g.From.Addr, g.To.Addr
		s, _ := Write(g)
		for at := range s {
			for bits := 1; bits < 256; bits++ {
				other := turned(s, at, byte(bits))
				checkRead(t, src, dst, other)
				if got, e := Read(src, dst, other); e == api.OK {
					t.Errorf("Read(%q) is %#v", other, got)
				}
				checkRead(t, src, dst, summed(src, dst, other))
			}
		}
		for n := range s {
			checkRead(t, src, dst, s[:n])
			checkRead(t, src, dst, s+s[:n])
		}
	}
}

// Every check sum at the place of the right one: it alone is taken, 65535 not
// for 0 either.
func TestReadOfEveryCheckSum(t *testing.T) {
	for _, g := range []api.Seg{plain(), begin(), zeroSum()} {
		s, _ := Write(g)
		for n := range 65536 {
			other := put(s, 16, string([]byte{byte(n >> 8), byte(n)}))
			want := api.ErrSum
			if other == s {
				want = api.OK
			}
			if _, e := Read(g.From.Addr, g.To.Addr, other); e != want {
				t.Fatalf("Read with a check sum of %#04x is %d, not %d", n, e, want)
			}
		}
	}
}

// Some bytes are drawn anew, and most of the texts are summed again: all faults
// come, also several at once.
func TestReadOfDrawnTexts(t *testing.T) {
	l := lot(11)
	src, dst := plain().From.Addr, plain().To.Addr
	var whole []string
	for _, g := range []api.Seg{plain(), begin()} {
		s, _ := Write(g)
		whole = append(whole, s)
	}
	seen := map[api.Errno]int{}
	for range 100000 {
		text := whole[l.draw(2)]
		text = text[:18+l.draw(len(text)-17)]
		for range l.draw(3) {
			text = put(text, l.draw(len(text)), l.text(1))
		}
		if l.draw(8) == 0 {
			text += l.text(l.draw(1100))
		}
		if l.draw(16) == 0 {
			text = "\x00\x00" + text[2:]
		}
		if len(text) >= 20 && l.draw(4) > 0 {
			text = summed(src, dst, text)
		}
		checkRead(t, src, dst, text)
		_, e := Read(src, dst, text)
		seen[e]++
	}
	for _, e := range []api.Errno{api.OK, api.ErrArg, api.ErrLarge, api.ErrShort, api.ErrForm, api.ErrSum} {
		if seen[e] == 0 {
			t.Errorf("no text was answered by %d", e)
		}
	}
}

// Bytes of any kind and number are answered.
func TestReadOfAnyBytes(t *testing.T) {
	l := lot(19)
	for range 50000 {
		src, dst := uint32(l.draw(1<<32)), uint32(l.draw(1<<32))
		text := l.text(l.draw(80))
		checkRead(t, src, dst, text)
		if len(text) >= 20 {
			checkRead(t, src, dst, summed(src, dst, text))
		}
	}
	for _, b := range []string{"\x00", "\x01", "\x55", "\xff"} {
		for n := range 80 {
			checkRead(t, 0, 0, strings.Repeat(b, n))
		}
	}
}

// What Read takes has the same numbers as Write's bytes of it, and is read
// back from these.
func TestReadAndWriteAnew(t *testing.T) {
	l := lot(13)
	flags := []byte{0, 1, 2, 4, 8, 16, 17, 18, 20, 24, 25, 26, 28}
	options := []string{"", "\x01\x01\x01\x01", "\x03\x03\x07\x00", "\x00\x02\x04\x09"}
	for range 20000 {
		src, dst := uint32(l.draw(1<<32)), uint32(l.draw(1<<32))
		flag := flags[l.draw(len(flags))]
		ack := "\x00\x00\x00\x00"
		if flag&16 != 0 {
			ack = l.text(4)
		}
		some := options[l.draw(len(options))]
		head := string([]byte{byte(1 + l.draw(255)), byte(l.draw(256)), byte(1 + l.draw(255)), byte(l.draw(256))}) +
			l.text(4) + ack + string([]byte{byte(16 * (5 + len(some)/4)), flag}) + l.text(2) + "\x00\x00\x00\x00"
		body := l.text(l.draw(30))
		g, e := Read(src, dst, summed(src, dst, head+some+body))
		if e != api.OK {
			t.Fatalf("Read(%#x, %#x, %q) is %d", src, dst, head+some+body, e)
		}
		want := summed(src, dst, head[:12]+string([]byte{0x50, flag &^ 8})+head[14:]+body)
		if back, e := Write(g); back != want || e != api.OK {
			t.Fatalf("Write of Read(%q) is %q, %d, not %q", head+some+body, back, e, want)
		}
	}
}

// share tells whether two texts lie in the same memory, in part at least.
func share(a, b string) bool {
	if a == "" || b == "" {
		return false
	}
	from, to := uintptr(unsafe.Pointer(unsafe.StringData(a))), uintptr(unsafe.Pointer(unsafe.StringData(b)))
	return from < to+uintptr(len(b)) && to < from+uintptr(len(a))
}

func TestAnswersAreNewMemory(t *testing.T) {
	for _, n := range []int{0, 1, 5, 1000} {
		for _, g := range []api.Seg{plain(), begin()} {
			g.Body = some(n)
			s, _ := Write(g)
			if share(s, g.Body) {
				t.Errorf("Write shares a Body of %d bytes", n)
			}
			if again, _ := Write(g); share(s, again) {
				t.Errorf("two Writes share a Body of %d bytes", n)
			}
			back, _ := Read(g.From.Addr, g.To.Addr, s)
			if share(s, back.Body) {
				t.Errorf("Read shares a Body of %d bytes", n)
			}
			if again, _ := Read(g.From.Addr, g.To.Addr, s); share(back.Body, again.Body) {
				t.Errorf("two Reads share a Body of %d bytes", n)
			}
		}
	}
}

// What came between does not show in what is answered.
func TestNothingIsKept(t *testing.T) {
	all := []api.Seg{plain(), begin(), zeroSum()}
	var first []string
	for _, g := range all {
		s, _ := Write(g)
		first = append(first, s)
	}
	for _, i := range []int{0, 1, 2, 1, 0, 2, 2, 0} {
		g, s := all[i], first[i]
		Write(api.Seg{})
		Read(g.From.Addr, g.To.Addr, s[:19])
		Read(1, 2, s)
		Check(begin())
		Length(plain())
		if again, e := Write(g); again != s || e != api.OK {
			t.Errorf("Write is %q, %d, and was %q", again, e, s)
		}
		if back, e := Read(g.From.Addr, g.To.Addr, s); back != g || e != api.OK {
			t.Errorf("Read is %#v, %d", back, e)
		}
	}
	if !slices.Equal(all, []api.Seg{plain(), begin(), zeroSum()}) {
		t.Errorf("what was handed in is %#v now", all)
	}
}
