package page_test

import (
	"math"
	"strings"
	"testing"

	"spinet/api"
	"spinet/ops"
	"spinet/page"
)

// The opcodes of the three pages, sixteen a line, laid out as on a data sheet, written by hand; a minus sign: none is listed. Page 2 has its lines from 20 on, page 3 from 30 on.
const (
	first = `
NEG  -    -    COM  LSR  -    ROR  ASR  ASL  ROL  DEC  -    INC  TST  JMP  CLR
-    -    NOP  SYNC -    -    LBRA LBSR -    DAA  ORCC -    ANDCC SEX EXG  TFR
BRA  BRN  BHI  BLS  BCC  BCS  BNE  BEQ  BVC  BVS  BPL  BMI  BGE  BLT  BGT  BLE
LEAX LEAY LEAS LEAU PSHS PULS PSHU PULU -    RTS  ABX  RTI  CWAI MUL  -    SWI
NEGA -    -    COMA LSRA -    RORA ASRA ASLA ROLA DECA -    INCA TSTA -    CLRA
NEGB -    -    COMB LSRB -    RORB ASRB ASLB ROLB DECB -    INCB TSTB -    CLRB
NEG  -    -    COM  LSR  -    ROR  ASR  ASL  ROL  DEC  -    INC  TST  JMP  CLR
NEG  -    -    COM  LSR  -    ROR  ASR  ASL  ROL  DEC  -    INC  TST  JMP  CLR
SUBA CMPA SBCA SUBD ANDA BITA LDA  -    EORA ADCA ORA  ADDA CMPX BSR  LDX  -
SUBA CMPA SBCA SUBD ANDA BITA LDA  STA  EORA ADCA ORA  ADDA CMPX JSR  LDX  STX
SUBA CMPA SBCA SUBD ANDA BITA LDA  STA  EORA ADCA ORA  ADDA CMPX JSR  LDX  STX
SUBA CMPA SBCA SUBD ANDA BITA LDA  STA  EORA ADCA ORA  ADDA CMPX JSR  LDX  STX
SUBB CMPB SBCB ADDD ANDB BITB LDB  -    EORB ADCB ORB  ADDB LDD  -    LDU  -
SUBB CMPB SBCB ADDD ANDB BITB LDB  STB  EORB ADCB ORB  ADDB LDD  STD  LDU  STU
SUBB CMPB SBCB ADDD ANDB BITB LDB  STB  EORB ADCB ORB  ADDB LDD  STD  LDU  STU
SUBB CMPB SBCB ADDD ANDB BITB LDB  STB  EORB ADCB ORB  ADDB LDD  STD  LDU  STU`

	second = `
-    LBRN LBHI LBLS LBCC LBCS LBNE LBEQ LBVC LBVS LBPL LBMI LBGE LBLT LBGT LBLE
-    -    -    -    -    -    -    -    -    -    -    -    -    -    -    SWI2
-    -    -    -    -    -    -    -    -    -    -    -    -    -    -    -
-    -    -    -    -    -    -    -    -    -    -    -    -    -    -    -
-    -    -    -    -    -    -    -    -    -    -    -    -    -    -    -
-    -    -    -    -    -    -    -    -    -    -    -    -    -    -    -
-    -    -    CMPD -    -    -    -    -    -    -    -    CMPY -    LDY  -
-    -    -    CMPD -    -    -    -    -    -    -    -    CMPY -    LDY  STY
-    -    -    CMPD -    -    -    -    -    -    -    -    CMPY -    LDY  STY
-    -    -    CMPD -    -    -    -    -    -    -    -    CMPY -    LDY  STY
-    -    -    -    -    -    -    -    -    -    -    -    -    -    LDS  -
-    -    -    -    -    -    -    -    -    -    -    -    -    -    LDS  STS
-    -    -    -    -    -    -    -    -    -    -    -    -    -    LDS  STS
-    -    -    -    -    -    -    -    -    -    -    -    -    -    LDS  STS`

	third = `
-    -    -    -    -    -    -    -    -    -    -    -    -    -    -    SWI3
-    -    -    -    -    -    -    -    -    -    -    -    -    -    -    -
-    -    -    -    -    -    -    -    -    -    -    -    -    -    -    -
-    -    -    -    -    -    -    -    -    -    -    -    -    -    -    -
-    -    -    -    -    -    -    -    -    -    -    -    -    -    -    -
-    -    -    CMPU -    -    -    -    -    -    -    -    CMPS -    -    -
-    -    -    CMPU -    -    -    -    -    -    -    -    CMPS -    -    -
-    -    -    CMPU -    -    -    -    -    -    -    -    CMPS -    -    -
-    -    -    CMPU -    -    -    -    -    -    -    -    CMPS -    -    -`
)

// modes are those of the page 1, a line as above: none, a byte, two, direct, x the indexed mode, extended, r and l branches, pairs, many; the pages 2 and 3 have those of the page 1 where they have anything, but for the long branches.
const modes = `
d--dd-ddddd-dddd
--nn--ll-nb-bnpp
rrrrrrrrrrrrrrrr
xxxxmmmm-nnnbn-n
n--nn-nnnnn-nn-n
n--nn-nnnnn-nn-n
x--xx-xxxxx-xxxx
e--ee-eeeee-eeee
bbbwbbb-bbbbwrw-
dddddddddddddddd
xxxxxxxxxxxxxxxx
eeeeeeeeeeeeeeee
bbbwbbb-bbbbw-w-
dddddddddddddddd
xxxxxxxxxxxxxxxx
eeeeeeeeeeeeeeee`

// letters are those of the modes, by the modes' numbers.
const letters = "nbwdxerlpm"

// sheet: what the opcodes of each page stand for.
func sheet(t *testing.T) map[int]map[byte]api.Entry {
	t.Helper()
	all := map[int]map[byte]api.Entry{}
	begins := map[int]int{1: 0x00, 2: 0x20, 3: 0x30}
	for p, list := range map[int]string{1: first, 2: second, 3: third} {
		all[p] = map[byte]api.Entry{}
		at := begins[p]
		for i, name := range strings.Fields(list) {
			if name == "-" {
				continue
			}
			op, reg, ok := ops.Find(name)
			if !ok {
				t.Fatalf("there is no name %s", name)
			}
			all[p][byte(at+i)] = api.Entry{Op: op, Mode: modeOf(p, at+i), Reg: reg}
		}
	}
	return all
}

// modeOf: the mode of an opcode that is listed.
func modeOf(p, code int) int {
	if p == 2 && code>>4 == 2 {
		return api.ModeRelw
	}
	return strings.IndexByte(letters, strings.Fields(modes)[code>>4][code&15])
}

func TestP14_1Of(t *testing.T) {
	all := sheet(t)
	if len(all[1]) != 221 || len(all[2]) != 38 || len(all[3]) != 9 {
		t.Fatalf("%d, %d, %d opcodes are listed here", len(all[1]), len(all[2]), len(all[3]))
	}
	for p := 1; p <= 3; p++ {
		for code := range 256 {
			if got, want := page.Of(p, byte(code)), all[p][byte(code)]; got != want {
				t.Errorf("Of(%d, %X): %v, not %v", p, code, got, want)
			}
		}
	}
	for _, p := range []int{0, 4, -1, -2, 5, 16, 17, 255, 256, 257, 258, 1<<32 + 1, math.MaxInt, math.MinInt, math.MinInt + 1} {
		for code := range 256 {
			if got := page.Of(p, byte(code)); got != (api.Entry{}) {
				t.Fatalf("Of(%d, %X): %v", p, code, got)
			}
		}
	}
}

// Single opcodes by their numbers, which the sheet tells by names.
func TestP14_1OfSome(t *testing.T) {
	cases := []struct {
		page int
		code byte
		want api.Entry
	}{
		{1, 0x86, api.Entry{Op: 11, Mode: 1, Reg: 8}},
		{1, 0x00, api.Entry{Op: 13, Mode: 3, Reg: 0}},
		{1, 0x0E, api.Entry{Op: 32, Mode: 3, Reg: 0}},
		{1, 0x12, api.Entry{Op: 39, Mode: 0, Reg: 0}},
		{1, 0x16, api.Entry{Op: 36, Mode: 7, Reg: 0}},
		{1, 0x1F, api.Entry{Op: 47, Mode: 8, Reg: 0}},
		{1, 0x20, api.Entry{Op: 34, Mode: 6, Reg: 0}},
		{1, 0x2F, api.Entry{Op: 34, Mode: 6, Reg: 15}},
		{1, 0x32, api.Entry{Op: 29, Mode: 4, Reg: 4}},
		{1, 0x33, api.Entry{Op: 29, Mode: 4, Reg: 3}},
		{1, 0x36, api.Entry{Op: 30, Mode: 9, Reg: 3}},
		{1, 0x3C, api.Entry{Op: 41, Mode: 1, Reg: 0}},
		{1, 0x3F, api.Entry{Op: 51, Mode: 0, Reg: 1}},
		{1, 0x4C, api.Entry{Op: 21, Mode: 0, Reg: 8}},
		{1, 0x5F, api.Entry{Op: 23, Mode: 0, Reg: 9}},
		{1, 0x6E, api.Entry{Op: 32, Mode: 4, Reg: 0}},
		{1, 0x7D, api.Entry{Op: 22, Mode: 5, Reg: 0}},
		{1, 0x83, api.Entry{Op: 27, Mode: 2, Reg: 0}},
		{1, 0x8D, api.Entry{Op: 37, Mode: 6, Reg: 0}},
		{1, 0xAD, api.Entry{Op: 33, Mode: 4, Reg: 0}},
		{1, 0xBF, api.Entry{Op: 25, Mode: 5, Reg: 1}},
		{1, 0xC3, api.Entry{Op: 26, Mode: 2, Reg: 0}},
		{1, 0xEE, api.Entry{Op: 24, Mode: 4, Reg: 3}},
		{1, 0xF7, api.Entry{Op: 12, Mode: 5, Reg: 9}},
		{2, 0x21, api.Entry{Op: 35, Mode: 7, Reg: 1}},
		{2, 0x27, api.Entry{Op: 35, Mode: 7, Reg: 7}},
		{2, 0x3F, api.Entry{Op: 51, Mode: 0, Reg: 2}},
		{2, 0x83, api.Entry{Op: 28, Mode: 2, Reg: 0}},
		{2, 0x9F, api.Entry{Op: 25, Mode: 3, Reg: 2}},
		{2, 0xFE, api.Entry{Op: 24, Mode: 5, Reg: 4}},
		{3, 0x3F, api.Entry{Op: 51, Mode: 0, Reg: 3}},
		{3, 0x93, api.Entry{Op: 28, Mode: 3, Reg: 3}},
		{3, 0xAC, api.Entry{Op: 28, Mode: 4, Reg: 4}},
		{2, 0x20, api.Entry{}},
		{2, 0x10, api.Entry{}},
		{2, 0x12, api.Entry{}},
		{3, 0x11, api.Entry{}},
		{3, 0x8E, api.Entry{}},
		{1, 0x10, api.Entry{}},
		{1, 0x11, api.Entry{}},
		{1, 0x4E, api.Entry{}},
		{1, 0x87, api.Entry{}},
		{1, 0x8F, api.Entry{}},
		{1, 0xC7, api.Entry{}},
		{1, 0xCD, api.Entry{}},
		{1, 0xCF, api.Entry{}},
	}
	for _, c := range cases {
		if got := page.Of(c.page, c.code); got != c.want {
			t.Errorf("Of(%d, %X): %v, not %v", c.page, c.code, got, c.want)
		}
	}
}

func TestP14_1Find(t *testing.T) {
	for p, codes := range sheet(t) {
		for code, e := range codes {
			if gotP, gotC, ok := page.Find(e); gotP != p || gotC != code || !ok {
				t.Errorf("Find(%v): %d, %X, %v, not %d, %X", e, gotP, gotC, ok, p, code)
			}
		}
	}
}

// Of all entries of small numbers just those that are listed are found.
func TestP14_1FindEach(t *testing.T) {
	listed := map[api.Entry]bool{}
	for _, codes := range sheet(t) {
		for _, e := range codes {
			listed[e] = true
		}
	}
	wrong := func(e api.Entry) {
		if p, code, ok := page.Find(e); p != 0 || code != 0 || ok {
			t.Errorf("Find(%v): %d, %X, %v", e, p, code, ok)
		}
	}
	for op := -1; op < 54; op++ {
		for mode := -1; mode < 11; mode++ {
			for reg := -1; reg < 17; reg++ {
				if e := (api.Entry{Op: op, Mode: mode, Reg: reg}); !listed[e] {
					wrong(e)
				}
			}
		}
	}
	wrong(api.Entry{})
	wrong(api.Entry{Op: math.MaxInt, Mode: math.MinInt, Reg: math.MaxInt})
	wrong(api.Entry{Op: api.OpLd, Mode: api.ModeImm, Reg: api.RegA + 256})
	wrong(api.Entry{Op: api.OpLd, Mode: api.ModeImm + 1<<32, Reg: api.RegA})
}

func TestP14_1Prefix(t *testing.T) {
	for code := range 256 {
		want := map[int]int{0x10: 2, 0x11: 3}[code]
		if got := page.Prefix(byte(code)); got != want {
			t.Errorf("Prefix(%X): %d", code, got)
		}
		// A prefix is no instruction itself, on no page.
		if want > 0 {
			for p := 1; p <= 3; p++ {
				if got := page.Of(p, byte(code)); got != (api.Entry{}) {
					t.Errorf("Of(%d, %X): %v", p, code, got)
				}
			}
		}
	}
}

// The same is answered again (P2 of DOC.md).
func TestP2SameAgain(t *testing.T) {
	e := api.Entry{Op: api.OpLd, Mode: api.ModeImm, Reg: api.RegA}
	for range 2 {
		if page.Of(1, 0x86) != e || page.Prefix(0x11) != 3 {
			t.Error("something else is answered the second time")
		}
		if p, code, ok := page.Find(e); p != 1 || code != 0x86 || !ok {
			t.Error("Find answers something else the second time")
		}
	}
}
