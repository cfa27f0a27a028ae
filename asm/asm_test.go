package asm_test

import (
	"bytes"
	"fmt"
	"slices"
	"strings"
	"testing"

	"spinet/api"
	"spinet/asm"
	"spinet/srec"
)

// known are lines, one behind the other with a stroke between, and their bytes; they stand at 1000, and there are the names here (1000), zp (12), far (ABCD), less (-5), and two of registers, A (7) and X (300).
var known = []struct{ text, bytes string }{
	// No operand.
	{" NOP", "12"},
	{" nop", "12"},
	{"l: Nop ; nothing", "12"},
	{" SWI2", "103F"},
	{" SWI3", "113F"},
	{" LSLA", "48"},
	{" ASLB", "58"},
	{" CLRA", "4F"},
	{" RTS| RTI| MUL| ABX| DAA| SEX| SYNC| SWI", "393B3D3A191D133F"},
	// Numbers.
	{" LDA #5", "8605"},
	{" lda # 5 ; x", "8605"},
	{" LDA #255", "86FF"},
	{" LDA #-128", "8680"},
	{" LDA #65535", "86FF"},
	{" LDA #'A", "8641"},
	{" LDA #less", "86FB"},
	{" LDA #%101", "8605"},
	{" LDB #A", "C607"},
	{" ORCC #$50| ANDCC #$AF| CWAI #$FF", "1A501CAF3CFF"},
	{" LDX #5", "8E0005"},
	{" LDX #-1", "8EFFFF"},
	{" LDX #far", "8EABCD"},
	{" LDX #*", "8E1000"},
	{" NOP| LDD #*", "12CC1001"},
	{" LDS #here", "10CE1000"},
	{" CMPU #$1234| CMPS #$1234| CMPD #$1234| CMPY #$1234", "11831234118C123410831234108C1234"},
	// Addresses.
	{" LDA 5", "B60005"},
	{" LDA >5", "B60005"},
	{" LDA <5", "9605"},
	{" LDA <255", "96FF"},
	{" LDA <zp", "9612"},
	{" LDA zp", "B60012"},
	{" STA far", "B7ABCD"},
	{" STA -1", "B7FFFF"},
	{" LDA A", "B60007"},
	{" LDA X", "B6012C"},
	{" JMP here", "7E1000"},
	{" JMP <zp", "0E12"},
	{" JSR far| JSR <zp", "BDABCD9D12"},
	{" CLR zp| CLR <zp", "7F00120F12"},
	{" LSL far| LSL <zp", "78ABCD0812"},
	{" LDY far| STY <zp| LDS >zp", "10BEABCD109F1210FE0012"},
	{" CMPS <zp| CMPU far", "119C1211B3ABCD"},
	// Branches.
	{" BRA *", "20FE"},
	{"l: BRA l", "20FE"},
	{" BRA l|l:", "2000"},
	{" BRA *+2", "2000"},
	{" BRA *+129", "207F"},
	{" BRA *-126", "2080"},
	{" BHS *| BLO *", "24FE25FE"},
	{" BSR here| BSR here", "8DFE8DFC"},
	{" BRA <*", "20FE"},
	{" BRA >*", "20FE"},
	{" LBRA *", "16FFFD"},
	{" LBSR far", "179BCA"},
	{" LBEQ *", "1027FFFC"},
	{" LBHS 0", "1024EFFC"},
	{" LBRN *+4", "10210000"},
	{" LBLO <*", "1025FFFC"},
	// Indexed ones.
	{" LDA ,X", "A684"},
	{" LDA ,Y+| LDA ,U++| LDA ,-S| LDA ,--X", "A6A0A6C1A6E2A683"},
	{" LDA [,Y]| LDA [,X++]| LDA [,--S]", "A6B4A691A6F3"},
	{" LDA A,X| LDA B,Y| LDA D,U| LDA [D,S]", "A686A6A5A6CBA6FB"},
	{" LDA 0,X| LDA 15,Y| LDA -16,U| LDA -1,S", "A600A62FA650A67F"},
	{" LDA 16,X| LDA -17,Y| LDA 127,U| LDA -128,S", "A68810A6A8EFA6C87FA6E880"},
	{" LDA 128,X| LDA -129,Y| LDA far,U", "A6890080A6A9FF7FA6C9ABCD"},
	{" LDA <5,X| LDA >5,X| LDA <-5,X", "A68805A6890005A688FB"},
	{" LDA <zp,X| LDA zp,X| LDA <less,S", "A68812A6890012A6E8FB"},
	{" LDA [0,X]| LDA [-16,Y]| LDA [500,U]| LDA [zp,S]", "A69800A6B8F0A6D901F4A6F90012"},
	{" LDA 5,PC| LDA <5,PC| LDA >5,PC| LDA [5,PC]| LDA [<-5,PC]", "A68D0005A68C05A68D0005A69D0005A69CFB"},
	{" LDA A,PC| LDA <A,X| LDA >A,X", "A68D0007A68807A6890007"},
	{" LDA *,X", "A6891000"},
	{" LDA [far]| LDA [>5]| JMP [$FFFE]", "A69FABCDA69F00056E9FFFFE"},
	{" LEAX 1,X| LEAY ,Y| LEAS -2,S| LEAU D,U", "300131A4327E33CB"},
	{" LDY ,X| CMPU 5,Y| STS <5,X", "10AE8411A32510EF8805"},
	{" JMP ,X| JSR [,Y]| TST ,S+", "6E84ADB46DE0"},
	// Registers.
	{" PSHS", "3400"},
	{" PSHS A", "3402"},
	{" PSHS D,X", "3416"},
	{" PSHS PC,U,Y,X,DP,B,A,CC", "34FF"},
	{" PSHU S,PC| PULU S| PULS U,PC", "36C0374035C0"},
	{" pshs A , B ; two", "3406"},
	{" EXG D,X| TFR A,DP| TFR R6,R15| EXG PC,CC", "1E011F8B1F6F1E5A"},
	// Bytes and words.
	{" FCB 5", "05"},
	{" FCB 1,-1,255,$FF,%1,'a,zp,less", "01FFFFFF016112FB"},
	{" fcb 1 , 2 ;,3", "0102"},
	{" FCB -128,65408,127+1", "808080"},
	{" FDB 5", "0005"},
	{" FDB 1,-1,65535,far,*,'a", "0001FFFFFFFFABCD10000061"},
	{" NOP| FDB *,*| FDB *", "12100110011005"},
	{" FCB *-here,*-here| FCB *-here", "000002"},
	// Names that stand behind.
	{" LDX #l|l: NOP", "8E100312"},
	{" FDB m|m EQU 5", "0005"},
	{" LDA <m|m EQU 5", "9605"},
	{" LDA m,X|m EQU 5", "A6890005"},
	{"l| FDB l", "1000"},
	{"l|m:|n| FDB l,m,n", "100010001000"},
	{"m EQU 5| FDB m", "0005"},
	{"m: equ zp+1|n equ m+m| FDB n", "0026"},
	{"m EQU *| NOP|n EQU *| FDB m,n", "1210001001"},
	{"l EQU 5|l EQU 5| FCB l", "05"},
	{"l EQU here|l NOP", "12"},
}

// ahead is what stands ahead of the known lines, as so many lines.
const (
	ahead = " ORG $1000\nhere:\nzp EQU $12\nfar EQU $ABCD\nless EQU -5\nA EQU 7\nX EQU 300\n"
	lines = 7
)

// put: a program that must be right.
func put(t *testing.T, s string) asm.Program {
	t.Helper()
	p, n, e := asm.Assemble(s)
	if e != api.OK || n != 0 || p.Names == nil {
		t.Fatalf("%q: line %d, %v", s, n, e)
	}
	return p
}

// all: the bytes of all Outs.
func all(p asm.Program) []byte {
	var out []byte
	for _, o := range p.Outs {
		out = append(out, o.B...)
	}
	return out
}

func TestP46_1Known(t *testing.T) {
	for _, c := range known {
		p, n, e := asm.Assemble(ahead + strings.ReplaceAll(c.text, "|", "\n"))
		if got := fmt.Sprintf("%X", all(p)); e != api.OK || n != 0 || got != c.bytes {
			t.Errorf("%q: %s, line %d, %v, not %s", c.text, got, n, e, c.bytes)
		}
	}
	if p := put(t, "a: BRA a"); len(p.Outs) != 1 || p.Outs[0].Line != 1 || p.Outs[0].At != 0 || !bytes.Equal(p.Outs[0].B, []byte{0x20, 0xFE}) {
		t.Errorf("a: BRA a: %+v", p.Outs)
	}
}

// told: the Outs as a text.
func told(l []asm.Out) string {
	var out []string
	for _, o := range l {
		out = append(out, fmt.Sprintf("%d:%04X:%X", o.Line, o.At, o.B))
	}
	return strings.Join(out, " ")
}

// called: the names and what they stand for as a text.
func called(p asm.Program) string {
	var out []string
	for _, name := range p.Names.Names() {
		at, _ := p.Names.Get(name)
		out = append(out, fmt.Sprintf("%s=%04X", name, at))
	}
	return strings.Join(out, " ")
}

func TestP46_1Places(t *testing.T) {
	for _, c := range []struct{ text, outs, names string }{
		{"", "", ""},
		{"\n\n", "", ""},
		{"; nothing", "", ""},
		{"a", "", "a=0000"},
		{" ORG 5", "", ""},
		{"a: ORG 5\nb", "", "a=0000 b=0005"},
		{" RMB 0\na", "", "a=0000"},
		{" RMB 5\na: NOP", "2:0005:12", "a=0005"},
		{"a: RMB 5\nb: RMB b\nc: NOP", "3:000A:12", "a=0000 b=0005 c=000A"},
		{" NOP\n\n;\nl\n FCB 1,2\n FDB 1\n LDA #5\nz", "1:0000:12 5:0001:0102 6:0003:0001 7:0005:8605", "l=0001 z=0007"},
		{" ORG $100\n NOP\n ORG $50\n NOP\n NOP", "2:0100:12 4:0050:12 5:0051:12", ""},
		{" ORG 5\n NOP\n ORG 5\n RTS", "2:0005:12 4:0005:39", ""},
		{"a EQU 5\n ORG a+a\nb: NOP", "3:000A:12", "a=0005 b=000A"},
		{" ORG *+5\n RMB *\na ORG a+1\nb", "", "a=000A b=000B"},
		{"a EQU *\n NOP\nb EQU *-1\n", "2:0000:12", "a=0000 b=0000"},
		{" ORG 65535\na: NOP", "2:FFFF:12", "a=FFFF"},
		{" ORG 65533\n JMP a\na EQU *", "2:FFFD:7E0000", "a=0000"},
		{" ORG 65534\n BRA *\n; the end\n\n ORG 65534\n FDB *", "2:FFFE:20FE 6:FFFE:FFFE", ""},
		{" RMB 65535\n RMB 1\n ORG 7\na", "", "a=0007"},
		{" ORG 65535\n NOP\n ORG *+3\na", "2:FFFF:12", "a=0003"},
		{" ORG 65535\n NOP\n RMB *\nb EQU *+1", "2:FFFF:12", "b=0001"},
		{"a EQU 5\na EQU 2+3\n", "", "a=0005"},
		{"equ equ 1\norg equ 2\nrmb fcb 3\nnop nop", "3:0000:03 4:0001:12", "equ=0001 nop=0001 org=0002 rmb=0000"},
	} {
		p, n, e := asm.Assemble(c.text)
		if e != api.OK || n != 0 || told(p.Outs) != c.outs || called(p) != c.names {
			t.Errorf("%q: %s; %s; line %d, %v", c.text, told(p.Outs), called(p), n, e)
		}
	}
}

// wrong are texts, the line that is wrong, and why.
var wrong = []struct {
	text string
	line int
	want api.Errno
}{
	// A label that may not be, wherever it stands, counts ahead of all else.
	{"1: NOP", 1, api.ErrName},
	{" FOO\n NOP\na-b: NOP", 3, api.ErrName},
	{"a EQU b\n:", 2, api.ErrName},
	{"abcdefghijklmnopq NOP", 1, api.ErrName},
	// EQU: its value, then its label.
	{"a EQU", 1, api.ErrForm},
	{"a EQU 5 5,", 1, api.ErrForm},
	{"a EQU 65536", 1, api.ErrOver},
	{"a EQU b", 1, api.ErrName},
	{"a EQU a", 1, api.ErrName},
	{"a EQU b\nb EQU 5", 1, api.ErrName},
	{" EQU 5", 1, api.ErrName},
	{" EQU", 1, api.ErrForm},
	{" EQU 65536", 1, api.ErrOver},
	{"a EQU 5\na EQU 6", 2, api.ErrTwice},
	{"a EQU 5\na EQU 65536", 2, api.ErrOver},
	{"a\n NOP\na EQU 5", 3, api.ErrTwice},
	// Labels.
	{"a\n NOP\na", 3, api.ErrTwice},
	{"a EQU 5\na NOP", 2, api.ErrTwice},
	{"a: NOP\na: FOO", 2, api.ErrTwice},
	{"a: NOP\na: ORG", 2, api.ErrTwice},
	{" ORG 65535\n NOP\na", 3, api.ErrRange},
	{"a ORG 65535\n NOP\na FOO", 3, api.ErrRange},
	{" ORG 65535\n NOP\na ORG 5", 3, api.ErrRange},
	{" RMB 65535\n RMB 1\na: RMB", 3, api.ErrRange},
	{" ORG 65535\n NOP\nb: FCB", 3, api.ErrRange},
	// ORG and RMB, with the names that are known there.
	{" ORG", 1, api.ErrForm},
	{" ORG b", 1, api.ErrName},
	{" ORG b\nb EQU 5", 1, api.ErrName},
	{" ORG 65536", 1, api.ErrOver},
	{" ORG #5", 1, api.ErrForm},
	{" ORG 5,6", 1, api.ErrForm},
	{" RMB", 1, api.ErrForm},
	{" RMB b\nb", 1, api.ErrName},
	{" RMB 65536", 1, api.ErrOver},
	{" NOP\n RMB 65536", 2, api.ErrOver},
	{" ORG 65535\n RMB 2", 2, api.ErrRange},
	{" NOP\n RMB 65535\n RMB 1", 3, api.ErrRange},
	{" RMB -1\n RMB 2", 2, api.ErrRange},
	// Instructions.
	{" FOO", 1, api.ErrName},
	{" FOO #", 1, api.ErrName},
	{" LD #5", 1, api.ErrName},
	{"a: b: NOP", 1, api.ErrName},
	{" NOP\r", 1, api.ErrName},
	{" SWI1", 1, api.ErrName},
	{" END", 1, api.ErrName},
	{" LBRS 5", 1, api.ErrName},
	{" PSHS Q", 1, api.ErrName},
	{" PSHS S", 1, api.ErrName},
	{" PSHU U", 1, api.ErrName},
	{" PULS x", 1, api.ErrName},
	{" PSHS A,", 1, api.ErrName},
	{" PSHS #5", 1, api.ErrName},
	{" PSHS A,A", 1, api.ErrTwice},
	{" PULU D,A", 1, api.ErrTwice},
	{" EXG", 1, api.ErrForm},
	{" TFR A", 1, api.ErrForm},
	{" TFR A,", 1, api.ErrName},
	{" TFR A,B,D", 1, api.ErrName},
	{" EXG R5,A", 1, api.ErrName},
	{" LDA [5", 1, api.ErrForm},
	{" LDA ,PC", 1, api.ErrForm},
	{" LDA 5,X+", 1, api.ErrForm},
	{" LDA [<5]", 1, api.ErrForm},
	{" LDA 5,x", 1, api.ErrForm},
	{" NOP ,Q", 1, api.ErrForm},
	// In no such mode.
	{" NOP 5", 1, api.ErrMode},
	{" NOP #", 1, api.ErrMode},
	{" LDA", 1, api.ErrMode},
	{" STA #5", 1, api.ErrMode},
	{" STX #5", 1, api.ErrMode},
	{" JMP #5", 1, api.ErrMode},
	{" JMP", 1, api.ErrMode},
	{" BRA", 1, api.ErrMode},
	{" BRA #5", 1, api.ErrMode},
	{" BRA ,X", 1, api.ErrMode},
	{" LBRA [5]", 1, api.ErrMode},
	{" LEAX 5", 1, api.ErrMode},
	{" LEAX <5", 1, api.ErrMode},
	{" LEAX #5", 1, api.ErrMode},
	{" NEG", 1, api.ErrMode},
	{" NEG #5", 1, api.ErrMode},
	{" NEGA 5", 1, api.ErrMode},
	{" ORCC 5", 1, api.ErrMode},
	{" CWAI", 1, api.ErrMode},
	{" RTS 65536", 1, api.ErrMode},
	// The end of memory.
	{" ORG 65535\n LDA #5", 2, api.ErrRange},
	{" ORG 65534\n JMP 5", 2, api.ErrRange},
	{" ORG 65532\n LDY 5000,X", 2, api.ErrRange},
	{" ORG 65533\n LBEQ *", 2, api.ErrRange},
	{" ORG 65535\n FCB 1,2", 2, api.ErrRange},
	{" ORG 65535\n FDB 1", 2, api.ErrRange},
	{" ORG 65535\n NOP\n NOP", 3, api.ErrRange},
	{" ORG 65535\n NOP\n FCB 1", 3, api.ErrRange},
	{" ORG 65535\n FCB 1,", 2, api.ErrRange},
	{" ORG 65535\n LDA b", 2, api.ErrRange},
	{" ORG 65535\n NOP 5", 2, api.ErrMode},
	{" ORG 65535\n PSHS Q", 2, api.ErrName},
	// Then the values, line by line.
	{" LDA #", 1, api.ErrForm},
	{" LDA <", 1, api.ErrForm},
	{" LDA #b", 1, api.ErrName},
	{" LDA #<5", 1, api.ErrForm},
	{" LDA 65536", 1, api.ErrOver},
	{" LDA #256", 1, api.ErrOver},
	{" LDA #65407", 1, api.ErrOver},
	{" LDA #-129", 1, api.ErrOver},
	{" LDA <256", 1, api.ErrOver},
	{" LDA <-1", 1, api.ErrOver},
	{" LDA <128,X", 1, api.ErrOver},
	{" LDA <-129,X", 1, api.ErrOver},
	{" LDA <128,PC", 1, api.ErrOver},
	{" LDA [<128,X]", 1, api.ErrOver},
	{" LDA 65536,X", 1, api.ErrOver},
	{" LDA b,X", 1, api.ErrName},
	{" LDA 1,2,X", 1, api.ErrForm},
	{" LDA [#5]", 1, api.ErrForm},
	{" LDA []", 1, api.ErrForm},
	{" LDA <,X", 1, api.ErrForm},
	{" BRA *+130", 1, api.ErrOver},
	{" BRA *-127", 1, api.ErrOver},
	{" ORG $1000\n BRA 0", 2, api.ErrOver},
	{" BSR b", 1, api.ErrName},
	{" LBRA 65536", 1, api.ErrOver},
	{" LBRA", 1, api.ErrMode},
	{" FCB", 1, api.ErrForm},
	{" FDB", 1, api.ErrForm},
	{" RMB 65535\n NOP\n FCB", 3, api.ErrForm},
	{" FCB ,", 1, api.ErrForm},
	{" FCB 1,", 1, api.ErrForm},
	{" FDB 1,,2", 1, api.ErrForm},
	{" FCB 256", 1, api.ErrOver},
	{" FCB -129", 1, api.ErrOver},
	{" FCB 1,65407", 1, api.ErrOver},
	{" FCB b", 1, api.ErrName},
	{" FCB 1,256,b", 1, api.ErrOver},
	{" FCB 1,b,256", 1, api.ErrName},
	{" FDB 65536", 1, api.ErrOver},
	{" FDB b,65536", 1, api.ErrName},
	{" FDB 65536,b", 1, api.ErrOver},
	{" FCB ',,1", 1, api.ErrForm},
	{" FCB 1 2 x", 1, api.ErrForm},
	// Those of the first time over count ahead of all of the second.
	{" FCB\n FOO", 2, api.ErrName},
	{" LDA #256\n NOP 5", 2, api.ErrMode},
	{" LDA b\n\na EQU b", 3, api.ErrName},
	{" LDA b\n FCB 256\nx: NOP\nx: NOP", 4, api.ErrTwice},
	{" FCB 256\n LDA b", 1, api.ErrOver},
	{" NOP\n\n LDA b\n FCB 256", 3, api.ErrName},
	{" LDA b\n RMB 65535\n NOP", 2, api.ErrRange},
}

func TestP46_1Wrong(t *testing.T) {
	for _, c := range wrong {
		p, n, e := asm.Assemble(c.text)
		if n != c.line || e != c.want || len(p.Outs) > 0 || p.Names != nil {
			t.Errorf("%q: line %d, %v, not %d, %v", c.text, n, e, c.line, c.want)
		}
		// The same behind other lines.
		p, n, e = asm.Assemble("; first\n\n" + c.text + "\n")
		if n != c.line+2 || e != c.want || len(p.Outs) > 0 || p.Names != nil {
			t.Errorf("behind other lines %q: line %d, %v, not %d, %v", c.text, n, e, c.line+2, c.want)
		}
	}
}

func TestP46_1Size(t *testing.T) {
	if p, n, e := asm.Assemble(strings.Repeat("\n", 16384)); e != api.OK || n != 0 || len(p.Outs) > 0 || p.Names.Len() != 0 {
		t.Error("lines of nothing")
	}
	if p, n, e := asm.Assemble(strings.Repeat(" NOP\n", 3276) + ";;;;"); e != api.OK || n != 0 || len(p.Outs) != 3276 || p.Outs[3275].Line != 3276 {
		t.Error("a text of 16384 bytes")
	}
	for _, s := range []string{strings.Repeat("\n", 16385), strings.Repeat(" NOP\n", 3276) + ";;;;;", strings.Repeat("x", 16385), ":" + strings.Repeat("\n", 16384), strings.Repeat(" ", 1<<20)} {
		if p, n, e := asm.Assemble(s); e != api.ErrSize || n != 0 || len(p.Outs) > 0 || p.Names != nil {
			t.Errorf("%d bytes: line %d, %v", len(s), n, e)
		}
	}
}

func TestP46_1Lengths(t *testing.T) {
	// How long a line is doesn't hang on what names stand for.
	for _, value := range []string{"0", "5", "$80", "$1234"} {
		p := put(t, " LDA m\n LDA m,X\n LDA [m]\n LDA m,PC\n LBRA m\n LDX #m\nm EQU "+value+"\nend EQU *\n")
		if at, _ := p.Names.Get("end"); at != 3+4+4+4+3+3 {
			t.Errorf("of %s: %d bytes", value, at)
		}
	}
}

func TestP46_2PiecesImage(t *testing.T) {
	p := put(t, " ORG $100\n FCB 1,2,3\n ORG $101\n FCB 9\n RMB 2\n ORG 65535\n NOP\n ORG $50\n FDB $ABCD")
	want := []srec.Piece{{At: 0x100, B: []byte{1, 2, 3}}, {At: 0x101, B: []byte{9}}, {At: 0xFFFF, B: []byte{0x12}}, {At: 0x50, B: []byte{0xAB, 0xCD}}}
	same := func(a, b srec.Piece) bool { return a.At == b.At && bytes.Equal(a.B, b.B) }
	got := p.Pieces()
	if !slices.EqualFunc(got, want, same) {
		t.Errorf("Pieces: %+v", got)
	}
	image := make([]byte, 65536)
	for at, b := range map[int]byte{0x100: 1, 0x101: 9, 0x102: 3, 0xFFFF: 0x12, 0x50: 0xAB, 0x51: 0xCD} {
		image[at] = b
	}
	if !bytes.Equal(p.Image(), image) {
		t.Error("Image")
	}
	clear(got[0].B)
	clear(p.Image())
	if !slices.EqualFunc(p.Pieces(), want, same) || !bytes.Equal(p.Image(), image) || p.Outs[0].B[0] != 1 {
		t.Error("an answer isn't new memory")
	}
	none := put(t, "")
	if len(none.Pieces()) > 0 || !bytes.Equal(none.Image(), make([]byte, 65536)) {
		t.Error("a program without bytes")
	}
	var zero asm.Program
	if len(zero.Pieces()) > 0 || !bytes.Equal(zero.Image(), make([]byte, 65536)) {
		t.Error("the zero program")
	}
}

func TestP2Again(t *testing.T) {
	text := ahead + " FCB 1,2\nq: LDA q,X\n"
	p := put(t, text)
	before, names := told(p.Outs), called(p)
	q := put(t, text)
	clear(q.Outs[0].B)
	q.Names.Drop("q")
	q.Names.Set("z", 1)
	asm.Assemble("q: FOO")
	r := put(t, text)
	if told(p.Outs) != before || told(r.Outs) != before || called(p) != names || called(r) != names {
		t.Error("two programs share something")
	}
}
