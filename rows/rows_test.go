package rows_test

import (
	"math"
	"slices"
	"strings"
	"testing"

	"spinet/api"
	"spinet/inst"
	"spinet/page"
	"spinet/rows"
	"spinet/table"
)

// row: cycles by letters; a star behind one: Busy.
func row(s string) []api.Step {
	kinds := map[rune]int{
		'O': api.KindOp, 'A': api.KindArg, 'N': api.KindNext, 'i': api.KindIdle, 'L': api.KindLoad, 'S': api.KindStore,
		'P': api.KindPeek, 'H': api.KindPush, 'U': api.KindPull, 'K': api.KindLook, 'T': api.KindPtr, 'V': api.KindVec,
	}
	var out []api.Step
	for _, c := range s {
		if c == '*' {
			out[len(out)-1].Busy = true
		} else {
			out = append(out, api.Step{Kind: kinds[c]})
		}
	}
	return out
}

// The sheets of the page 1, sixteen opcodes a line, written by hand. Modes: - none, i a byte, w two, d direct, x indexed, e extended, r an offset of a byte, R of two, p a pair, m many. Tails are told by letters of their own; see tails.
const (
	modes = `
d--dd-ddddd-dddd
------RR--i-i-pp
rrrrrrrrrrrrrrrr
xxxxmmmm----i---
----------------
----------------
x--xx-xxxxx-xxxx
e--ee-eeeee-eeee
iiiwiii-iiiiwrw-
dddddddddddddddd
xxxxxxxxxxxxxxxx
eeeeeeeeeeeeeeee
iiiwiii-iiiiw-w-
dddddddddddddddd
xxxxxxxxxxxxxxxx
eeeeeeeeeeeeeeee`

	ends = `
cnnccncccccnct.c
nnnannjBnnininxf
iiiiiiiiiiiiiiii
iiiihphpnuaIWmnS
nnnnnnnnnnnnnnnn
nnnnnnnnnnnnnnnn
cnnccncccccnct.c
cnnccncccccnct.c
...i...n....ib.n
lllklllsllllkCde
lllklllsllllkCde
lllklllsllllkCde
...i...n.....n.n
lllklllslllldede
lllklllslllldede
lllklllslllldede`

	// Of the pages 2 and 3: an opcode, its mode, its tail.
	second = `21Rq 22Rq 23Rq 24Rq 25Rq 26Rq 27Rq 28Rq 29Rq 2ARq 2BRq 2CRq 2DRq 2ERq 2FRq 3F-S
83wi 8Cwi 8Ew. 93dk 9Cdk 9Edd 9Fde A3xk ACxk AExd AFxe B3ek BCek BEed BFee
CEw. DEdd DFde EExd EFxe FEed FFee`
	third = `3F-S 83wi 8Cwi 93dk 9Cdk A3xk ACxk B3ek BCek`
)

// tails: what the letters of a tail stand for; h, p and q hang on more.
func tails() map[byte]string {
	twelve := strings.Repeat("H", 12)
	return map[byte]string{
		'.': "", 'n': "N", 'l': "L", 's': "S", 'c': "L*i*S", 't': "Lii", 'd': "L*L", 'e': "S*S", 'k': "L*Li", 'i': "i",
		'C': "PiHH", 'W': "Ni" + twelve, 'a': "Ni", 'm': "Niiiiiiiii", 'u': "NUUi", 'I': "NU", 'S': "Ni" + twelve + "iV*Vi",
		'j': "ii", 'b': "iPiHH", 'B': "iiPiHH", 'x': "iiiiii", 'f': "iiii",
	}
}

// letters: the mode's and the tail's of an opcode.
func letters(p int, code byte) (byte, byte) {
	if p == 1 {
		place := 1 + int(code>>4)*17 + int(code&15)
		return modes[place], ends[place]
	}
	list := map[int]string{2: second, 3: third}[p]
	hex := "0123456789ABCDEF"
	for _, f := range strings.Fields(list) {
		if f[0] == hex[code>>4] && f[1] == hex[code&15] {
			return f[2], f[3]
		}
	}
	return '-', 'n'
}

// head: the cycles behind an opcode of a mode, by its postbyte.
func head(mode byte, post int) string {
	s := map[byte]string{'i': "A", 'w': "AA", 'd': "Ai", 'e': "AAi", 'r': "A", 'R': "AA", 'p': "A", 'm': "A"}[mode]
	if mode != 'x' {
		return s
	}
	if post < 128 {
		return "Aii"
	}
	s = "A" + [16]string{
		0: "iii", 1: "iiii", 2: "iii", 3: "iiii", 4: "i", 5: "ii", 6: "ii", 7: "i", 8: "Ai", 9: "AAiii",
		10: "i", 11: "iiiii", 12: "Ai", 13: "AAiiii", 14: "i", 15: "AAi",
	}[post%16]
	if post/16%2 == 1 || post%16 == 15 {
		s += "T*Ti"
	}
	return s
}

// pushed: how many bytes a postbyte pushes.
func pushed(post int) int {
	n := 0
	for bit := range 8 {
		n += post >> bit % 2
		if bit > 3 {
			n += post >> bit % 2
		}
	}
	return n
}

// holds: does a condition from 1 on hold?
func holds(n, cc int) bool {
	neg, zero, over, carry := cc/8%2 == 1, cc/4%2 == 1, cc/2%2 == 1, cc%2 == 1
	yes := []bool{true, !carry && !zero, !carry, !zero, !over, !neg, neg == over, !zero && neg == over}[n/2]
	return yes == (n%2 == 0)
}

// tail: what a tail's letter stands for, of an opcode, a postbyte, and the codes.
func tail(letter, code byte, post, cc int) string {
	switch letter {
	case 'h':
		return "iiK" + strings.Repeat("H", pushed(post))
	case 'p':
		return "ii" + strings.Repeat("U", pushed(post)) + "K"
	case 'q':
		if holds(int(code%16), cc) {
			return "ii"
		}
		return "i"
	}
	s, ok := tails()[letter]
	if !ok {
		panic("no such letter")
	}
	return s
}

// rest: what RTI does behind the codes.
func rest(pulled int) string {
	if pulled >= 128 {
		return "UUUUUUUUUUUK"
	}
	return "UUK"
}

// opcodes calls with all that there are.
func opcodes(call func(p int, code byte)) {
	for p := 1; p <= 3; p++ {
		for code := range 256 {
			if p > 1 || code != 16 && code != 17 {
				call(p, byte(code))
			}
		}
	}
}

// made: the instruction of an opcode and the byte behind it.
func made(t *testing.T, p int, code byte, post int) api.Inst {
	t.Helper()
	b := []byte{code, byte(post), 3, 4, 5}
	if p > 1 {
		b = append([]byte{byte(14 + p)}, b...)
	}
	i, e := inst.Of(b...)
	if e != api.OK || i.Page != p || i.Code != code {
		t.Fatal(p, code, i, e)
	}
	return i
}

// check: are Tail and Of of an instruction what the sheets say, and as long as layer 19 tells?
func check(t *testing.T, i api.Inst, post, cc, pulled int) {
	t.Helper()
	mode, letter := letters(i.Page, i.Code)
	end := tail(letter, i.Code, post, cc)
	if got := rows.Tail(i.Entry, i.Post, byte(cc)); !slices.Equal(got, row(end)) {
		t.Fatalf("Tail(%+v, %X, %X): %v, not %v", i.Entry, i.Post, cc, got, row(end))
	}
	want := strings.Repeat("O", min(i.Page, 2)) + head(mode, post) + end
	if letter == 'I' {
		want += rest(pulled)
	}
	got := rows.Of(i, byte(cc), byte(pulled))
	if !slices.Equal(got, row(want)) {
		t.Fatalf("Of(%+v, %X, %X): %v, not %v", i, cc, pulled, got, row(want))
	}
	if len(got) != table.Of(i, byte(cc), byte(pulled)) || len(got) > api.MaxRow {
		t.Fatalf("Of(%+v, %X, %X): %d cycles", i, cc, pulled, len(got))
	}
}

func TestP23_1P23_2AllPostbytes(t *testing.T) {
	opcodes(func(p int, code byte) {
		for post := range 256 {
			check(t, made(t, p, code, post), post, 0, 0)
		}
	})
}

func TestP23_1P23_2AllCodes(t *testing.T) {
	opcodes(func(p int, code byte) {
		i := made(t, p, code, 0x12)
		for cc := range 256 {
			check(t, i, 0x12, cc, 255-cc)
		}
	})
}

// Tail asks an Entry of the page, a postbyte and the codes alone; its raw postbyte counts of PSH and PUL alone.
func TestP23_1Tail(t *testing.T) {
	opcodes(func(p int, code byte) {
		_, letter := letters(p, code)
		for _, b := range []int{0, 1, 0x10, 0x80, 0x9F, 255} {
			for _, cc := range []int{0, 1, 2, 4, 8, 10, 255} {
				want := row(tail(letter, code, b, cc))
				if got := rows.Tail(page.Of(p, code), byte(b), byte(cc)); !slices.Equal(got, want) {
					t.Fatalf("Tail of %X on %d, %X, %X: %v, not %v", code, p, b, cc, got, want)
				}
			}
		}
	})
	if got := rows.Tail(api.Entry{}, 255, 255); !slices.Equal(got, row("N")) {
		t.Errorf("Tail of what isn't listed: %v", got)
	}
}

func TestP23_2Rest(t *testing.T) {
	for pulled := range 256 {
		if got := rows.Rest(byte(pulled)); !slices.Equal(got, row(rest(pulled))) {
			t.Errorf("Rest(%d): %v", pulled, got)
		}
	}
}

func TestP23_2OfSome(t *testing.T) {
	cases := []struct {
		b          []byte
		cc, pulled byte
		want       string
	}{
		{[]byte{0x39}, 0, 0, "ONUUi"},
		{[]byte{0x12}, 0, 0, "ON"},
		{[]byte{0x86, 5}, 0, 0, "OA"},
		{[]byte{0x8E, 5, 6}, 0, 0, "OAA"},
		{[]byte{0x96, 5}, 0, 0, "OAiL"},
		{[]byte{0xB7, 1, 0}, 0, 0, "OAAiS"},
		{[]byte{0x0C, 1}, 0, 0, "OAiL*i*S"},
		{[]byte{0x7D, 1, 2}, 0, 0, "OAAiLii"},
		{[]byte{0x10, 0x9F, 5}, 0, 0, "OOAiS*S"},
		{[]byte{0x11, 0xA3, 0x84}, 0, 0, "OOAiL*Li"},
		{[]byte{0xA6, 0x9F, 1, 2}, 0, 0, "OAAAiT*TiL"},
		{[]byte{0x30, 1}, 0, 0, "OAiii"},
		{[]byte{0x6E, 0x84}, 0, 0, "OAi"},
		{[]byte{0x0E, 1}, 0, 0, "OAi"},
		{[]byte{0x9D, 1}, 0, 0, "OAiPiHH"},
		{[]byte{0x8D, 1}, 0, 0, "OAiPiHH"},
		{[]byte{0x17, 1, 2}, 0, 0, "OAAiiPiHH"},
		{[]byte{0x16, 1, 2}, 0, 0, "OAAii"},
		{[]byte{0x27, 1}, 4, 0, "OAi"},
		{[]byte{0x27, 1}, 0, 0, "OAi"},
		{[]byte{0x10, 0x27, 1, 2}, 4, 0, "OOAAii"},
		{[]byte{0x10, 0x27, 1, 2}, 0, 0, "OOAAi"},
		{[]byte{0x10, 0x21, 1, 2}, 255, 0, "OOAAi"},
		{[]byte{0x3B}, 0, 127, "ONUUUK"},
		{[]byte{0x3B}, 128, 128, "ONUUUUUUUUUUUUK"},
		{[]byte{0x34, 0x81}, 0, 0, "OAiiKHHH"},
		{[]byte{0x37, 0x16}, 0, 0, "OAiiUUUUK"},
		{[]byte{0x36, 0}, 0, 0, "OAiiK"},
		{[]byte{0x35, 0}, 0, 0, "OAiiK"},
		{[]byte{0x3C, 255}, 0, 0, "OANiHHHHHHHHHHHH"},
		{[]byte{0x13}, 0, 0, "ONi"},
		{[]byte{0x3D}, 0, 0, "ONiiiiiiiii"},
		{[]byte{0x1E, 0x12}, 0, 0, "OAiiiiii"},
		{[]byte{0x1F, 0x12}, 0, 0, "OAiiii"},
		{[]byte{0x1A, 1}, 0, 0, "OAi"},
		{[]byte{0x3F}, 0, 0, "ONiHHHHHHHHHHHHiV*Vi"},
		{[]byte{0x10, 0x3F}, 0, 0, "OONiHHHHHHHHHHHHiV*Vi"},
		// What isn't listed, and a prefix behind a prefix.
		{[]byte{0x87}, 255, 255, "ON"},
		{[]byte{0x10, 0x11}, 255, 255, "OON"},
	}
	for _, c := range cases {
		i, e := inst.Of(c.b...)
		if e != api.OK {
			t.Fatal(c.b, e)
		}
		if got := rows.Of(i, c.cc, c.pulled); !slices.Equal(got, row(c.want)) {
			t.Errorf("Of(% X): %v, not %v", c.b, got, row(c.want))
		}
	}
}

func TestP23_2Row(t *testing.T) {
	twelve := strings.Repeat("H", 12)
	want := map[int]string{
		api.RowNmi: "NNi" + twelve + "iV*Vi", api.RowIrq: "NNi" + twelve + "iV*Vi", api.RowFirq: "NNiHHHiV*Vi",
		api.RowReset: "V*Vi", api.RowNmiW: "V*Vi", api.RowFirqW: "V*Vi", api.RowIrqW: "V*Vi",
	}
	for kind := -300; kind < 300; kind++ {
		if got := rows.Row(kind); !slices.Equal(got, row(want[kind])) {
			t.Errorf("Row(%d): %v, not %v", kind, got, row(want[kind]))
		}
	}
	for _, kind := range []int{math.MinInt, math.MinInt + 1, 1<<32 + 1, math.MaxInt} {
		if got := rows.Row(kind); len(got) != 0 {
			t.Errorf("Row(%d): %v", kind, got)
		}
	}
}

func TestP23_3Rows(t *testing.T) {
	for kind := -10; kind < 20; kind++ {
		if got, want := len(rows.Row(kind)), table.Row(kind); got != want {
			t.Errorf("Row(%d): %d cycles, not %d", kind, got, want)
		}
	}
}

// Any codes, of what they count for: long branches and RTI.
func TestP23_3Codes(t *testing.T) {
	for code := 0x21; code < 0x30; code++ {
		i := made(t, 2, byte(code), 1)
		for cc := range 256 {
			want := 5
			if holds(code%16, cc) {
				want = 6
			}
			if got := len(rows.Of(i, byte(cc), 0)); got != want || got != table.Of(i, byte(cc), 0) {
				t.Fatalf("Of 10 %X, %X: %d cycles, not %d", code, cc, got, want)
			}
		}
	}
	rti := made(t, 1, 0x3B, 1)
	for cc := range 256 {
		for pulled := range 256 {
			want := 6
			if pulled >= 128 {
				want = 15
			}
			if got := len(rows.Of(rti, byte(cc), byte(pulled))); got != want || got != table.Of(rti, byte(cc), byte(pulled)) {
				t.Fatalf("Of RTI, %X, %X: %d cycles, not %d", cc, pulled, got, want)
			}
		}
	}
}

// Raw values have an answer, too, and the same one again (P1 and P2 of DOC.md).
func TestP1P2RawValues(t *testing.T) {
	numbers := []int{math.MinInt, -1, 0, 1, 2, 3, 4, 16, 29, 35, 49, 52, 256, math.MaxInt}
	for _, op := range numbers {
		for mode := -1; mode < 12; mode++ {
			for _, reg := range numbers {
				i := api.Inst{Page: reg, Code: 255, Entry: api.Entry{Op: op, Mode: mode, Reg: reg}, Post: 255, Value: 65535, Len: reg}
				one, two := rows.Of(i, 255, 255), rows.Of(i, 255, 255)
				if !slices.Equal(one, two) || len(one) == 0 {
					t.Fatalf("%+v: %v, %v", i, one, two)
				}
				end := rows.Tail(i.Entry, 255, 255)
				if (mode < 0 || mode > 9) && len(end) != 0 {
					t.Fatalf("Tail(%+v): %v", i.Entry, end)
				}
			}
		}
	}
}

// Two answers share no memory (rule 5 of DOC.md).
func TestP2NewMemory(t *testing.T) {
	i, _ := inst.Of(0x0C, 1)
	for range 2 {
		all := [][]api.Step{rows.Tail(i.Entry, 0, 0), rows.Of(i, 0, 0), rows.Rest(0), rows.Row(api.RowReset)}
		for n, want := range []string{"L*i*S", "OAiL*i*S", "UUK", "V*Vi"} {
			if !slices.Equal(all[n], row(want)) {
				t.Errorf("%v, not %v", all[n], row(want))
			}
		}
		for _, l := range all {
			clear(l[:cap(l)])
		}
	}
}
