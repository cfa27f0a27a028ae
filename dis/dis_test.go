package dis_test

import (
	"fmt"
	"math/rand"
	"slices"
	"strings"
	"testing"

	"spinet/api"
	"spinet/dis"
	"spinet/inst"
	"spinet/ram"
)

// first is the opcodes of the page 1, sixteen a line, written by hand from the chapters: a name, and behind a point how its operand is written: i #$b, w #$w, d <$b, e >$w, r and l a branch's target, x indexed, p two registers, m registers of S, u of U. A minus sign isn't listed.
const first = `
NEG.d - - COM.d LSR.d - ROR.d ASR.d ASL.d ROL.d DEC.d - INC.d TST.d JMP.d CLR.d
- - NOP SYNC - - LBRA.l LBSR.l - DAA ORCC.i - ANDCC.i SEX EXG.p TFR.p
BRA.r BRN.r BHI.r BLS.r BCC.r BCS.r BNE.r BEQ.r BVC.r BVS.r BPL.r BMI.r BGE.r BLT.r BGT.r BLE.r
LEAX.x LEAY.x LEAS.x LEAU.x PSHS.m PULS.m PSHU.u PULU.u - RTS ABX RTI CWAI.i MUL - SWI
NEGA - - COMA LSRA - RORA ASRA ASLA ROLA DECA - INCA TSTA - CLRA
NEGB - - COMB LSRB - RORB ASRB ASLB ROLB DECB - INCB TSTB - CLRB
NEG.x - - COM.x LSR.x - ROR.x ASR.x ASL.x ROL.x DEC.x - INC.x TST.x JMP.x CLR.x
NEG.e - - COM.e LSR.e - ROR.e ASR.e ASL.e ROL.e DEC.e - INC.e TST.e JMP.e CLR.e
SUBA.i CMPA.i SBCA.i SUBD.w ANDA.i BITA.i LDA.i - EORA.i ADCA.i ORA.i ADDA.i CMPX.w BSR.r LDX.w -
SUBA.d CMPA.d SBCA.d SUBD.d ANDA.d BITA.d LDA.d STA.d EORA.d ADCA.d ORA.d ADDA.d CMPX.d JSR.d LDX.d STX.d
SUBA.x CMPA.x SBCA.x SUBD.x ANDA.x BITA.x LDA.x STA.x EORA.x ADCA.x ORA.x ADDA.x CMPX.x JSR.x LDX.x STX.x
SUBA.e CMPA.e SBCA.e SUBD.e ANDA.e BITA.e LDA.e STA.e EORA.e ADCA.e ORA.e ADDA.e CMPX.e JSR.e LDX.e STX.e
SUBB.i CMPB.i SBCB.i ADDD.w ANDB.i BITB.i LDB.i - EORB.i ADCB.i ORB.i ADDB.i LDD.w - LDU.w -
SUBB.d CMPB.d SBCB.d ADDD.d ANDB.d BITB.d LDB.d STB.d EORB.d ADCB.d ORB.d ADDB.d LDD.d STD.d LDU.d STU.d
SUBB.x CMPB.x SBCB.x ADDD.x ANDB.x BITB.x LDB.x STB.x EORB.x ADCB.x ORB.x ADDB.x LDD.x STD.x LDU.x STU.x
SUBB.e CMPB.e SBCB.e ADDD.e ANDB.e BITB.e LDB.e STB.e EORB.e ADCB.e ORB.e ADDB.e LDD.e STD.e LDU.e STU.e`

// others are those of the pages 2 and 3, each with its opcode.
const (
	second = `21 LBRN.l 22 LBHI.l 23 LBLS.l 24 LBCC.l 25 LBCS.l 26 LBNE.l 27 LBEQ.l 28 LBVC.l 29 LBVS.l 2A LBPL.l 2B LBMI.l 2C LBGE.l 2D LBLT.l 2E LBGT.l 2F LBLE.l
3F SWI2 83 CMPD.w 93 CMPD.d A3 CMPD.x B3 CMPD.e 8C CMPY.w 9C CMPY.d AC CMPY.x BC CMPY.e 8E LDY.w 9E LDY.d AE LDY.x BE LDY.e 9F STY.d AF STY.x BF STY.e
CE LDS.w DE LDS.d EE LDS.x FE LDS.e DF STS.d EF STS.x FF STS.e`
	third = `3F SWI3 83 CMPU.w 93 CMPU.d A3 CMPU.x B3 CMPU.e 8C CMPS.w 9C CMPS.d AC CMPS.x BC CMPS.e`
)

// indexed is how the postbytes from 80 to 9F are written: r is the register, n and w the number behind. A minus sign: they aren't sure.
const indexed = `,r+ ,r++ ,-r ,--r ,r B,r A,r - <n,r >w,r - D,r <n,PC >w,PC - -
[,r+] [,r++] [,-r] [,--r] [,r] [B,r] [A,r] - [<n,r] [>w,r] - [D,r] [<n,PC] [>w,PC] - [w]`

// sheet: the names of a page's opcodes.
func sheet(page int) [256]string {
	var out [256]string
	switch page {
	case 1:
		copy(out[:], strings.Fields(first))
		return out
	case 2, 3:
		for i := range out {
			out[i] = "-"
		}
		l := strings.Fields([]string{second, third}[page-2])
		for i := 0; i < len(l); i += 2 {
			var code int
			fmt.Sscanf(l[i], "%X", &code)
			out[code] = l[i+1]
		}
	}
	return out
}

// sheets are those of all pages.
var sheets = [][256]string{1: sheet(1), 2: sheet(2), 3: sheet(3)}

// codes are the names of the registers, as transfers have them.
var codes = []string{"D", "X", "Y", "U", "S", "PC", "R6", "R7", "A", "B", "CC", "DP", "R12", "R13", "R14", "R15"}

// signed: a number of so many bits, with its sign.
func signed(n uint16, bits int) int {
	v := int(n) % (1 << bits)
	if v >= 1<<(bits-1) {
		v -= 1 << bits
	}
	return v
}

// pointed: an indexed operand by the sheet; empty: it isn't sure.
func pointed(post byte, value uint16) string {
	reg := []string{"X", "Y", "U", "S"}[post>>5&3]
	if post < 128 {
		return fmt.Sprintf("%d,%s", signed(uint16(post), 5), reg)
	}
	s := strings.Fields(indexed)[post&31]
	// Of what has no register only the least postbyte is sure.
	if s == "-" || !strings.Contains(s, "r") && post > 159 {
		return ""
	}
	for _, x := range [][2]string{{"n", fmt.Sprint(signed(value, 8))}, {"w", fmt.Sprintf("$%04X", value)}, {"r", reg}} {
		s = strings.Replace(s, x[0], x[1], 1)
	}
	return s
}

// listed: the registers of a postbyte, with commas between.
func listed(post byte, other string) string {
	var out []string
	for i, name := range []string{"CC", "A", "B", "DP", "X", "Y", other, "PC"} {
		if post>>i&1 > 0 {
			out = append(out, name)
		}
	}
	return strings.Join(out, ",")
}

// wanted: the text of an instruction of these bytes by the sheets; false: it isn't sure.
func wanted(i api.Inst, b []byte, at uint16) (string, bool) {
	raw := "FCB " + strings.ReplaceAll(strings.TrimSpace(fmt.Sprintf("%# X", b)), " 0X", ",$")
	raw = strings.Replace(raw, "0X", "$", 1)
	name, kind, _ := strings.Cut(sheets[i.Page][i.Code], ".")
	if name == "-" {
		return raw, false
	}
	n := len(b)
	byteOf, wordOf := fmt.Sprintf("$%02X", b[n-1]), ""
	var word uint16
	if n > 1 {
		word = uint16(b[n-2])<<8 | uint16(b[n-1])
		wordOf = fmt.Sprintf("$%04X", word)
	}
	end := int(at) + n
	switch kind {
	case "i":
		return name + " #" + byteOf, true
	case "w":
		return name + " #" + wordOf, true
	case "d":
		return name + " <" + byteOf, true
	case "e":
		return name + " >" + wordOf, true
	case "r":
		return fmt.Sprintf("%s $%04X", name, (end+signed(uint16(b[n-1]), 8))&65535), true
	case "l":
		return fmt.Sprintf("%s $%04X", name, (end+int(word))&65535), true
	case "p":
		return name + " " + codes[b[n-1]>>4] + "," + codes[b[n-1]&15], true
	case "m":
		return strings.TrimSpace(name + " " + listed(b[n-1], "U")), true
	case "u":
		return strings.TrimSpace(name + " " + listed(b[n-1], "S")), true
	case "x":
		post := b[1]
		if i.Page > 1 {
			post = b[2]
		}
		if s := pointed(post, word); s != "" {
			return name + " " + s, true
		}
		return raw, false
	}
	return name, true
}

// every calls with all opcodes of all pages with all bytes behind them, at many addresses.
func every(call func(i api.Inst, b []byte, at uint16)) {
	r := rand.New(rand.NewSource(42))
	for _, ahead := range [][]byte{nil, {0x10}, {0x11}} {
		for code := range 256 {
			for post := range 256 {
				b := append(slices.Clone(ahead), byte(code), byte(post), byte(r.Intn(256)), byte(r.Intn(256)), byte(r.Intn(256)))
				i, _ := inst.Of(b...)
				call(i, b[:i.Len], uint16(r.Intn(65536)))
			}
		}
	}
}

func TestP42_2Every(t *testing.T) {
	sure := 0
	every(func(i api.Inst, b []byte, at uint16) {
		want, ok := wanted(i, b, at)
		if got := dis.Text(i, at); got != want {
			t.Fatalf("Text of % X at %04X: %s, not %s", b, at, got, want)
		}
		if got := dis.Sure(i); got != ok {
			t.Fatalf("Sure of % X: %v", b, got)
		}
		if ok {
			sure++
		}
	})
	if sure < 60000 {
		t.Errorf("%d were sure", sure)
	}
}

func TestP42_1ByteWord(t *testing.T) {
	for n := range 65536 {
		if got, want := dis.Word(uint16(n)), fmt.Sprintf("$%04X", n); got != want {
			t.Fatalf("Word(%d): %s", n, got)
		}
		if got, want := dis.Byte(byte(n)), fmt.Sprintf("$%02X", n%256); got != want {
			t.Fatalf("Byte(%d): %s", n%256, got)
		}
	}
}

func TestP42_1Reg(t *testing.T) {
	for code, want := range codes {
		if got := dis.Reg(code); got != want {
			t.Errorf("Reg(%d): %s", code, got)
		}
	}
}

func TestP42_1Sure(t *testing.T) {
	for _, c := range []struct {
		b    []byte
		want bool
	}{
		{[]byte{0x12}, true}, {[]byte{0x01}, false}, {[]byte{0x10, 0x12}, false}, {[]byte{0x10, 0x10}, false}, {[]byte{0x11, 0x3F}, true},
		{[]byte{0xA6, 0x84}, true}, {[]byte{0xA6, 0x87}, false}, {[]byte{0xA6, 0x8A}, false}, {[]byte{0xA6, 0x8E}, false}, {[]byte{0xA6, 0x8F, 0, 0}, false},
		{[]byte{0xA6, 0x94}, true}, {[]byte{0xA6, 0x97}, false}, {[]byte{0xA6, 0x9F, 0, 0}, true}, {[]byte{0xA6, 0xBF, 0, 0}, false}, {[]byte{0xA6, 0xFF, 0, 0}, false},
		{[]byte{0xA6, 0x8C, 0}, true}, {[]byte{0xA6, 0xAC, 0}, false}, {[]byte{0xA6, 0x9D, 0, 0}, true}, {[]byte{0xA6, 0xFD, 0, 0}, false},
		{[]byte{0xA6, 0x90}, true}, {[]byte{0xA6, 0xF2}, true}, {[]byte{0xA6, 0x00}, true}, {[]byte{0xA6, 0x7F}, true},
		{[]byte{0x1F, 0x67}, true}, {[]byte{0x34, 0}, true}, {[]byte{0x20, 0xFE}, true},
	} {
		i, e := inst.Of(c.b...)
		if e != api.OK || dis.Sure(i) != c.want {
			t.Errorf("Sure of % X: %v", c.b, dis.Sure(i))
		}
	}
}

// known are instructions at 1000.
var known = []struct {
	b    []byte
	text string
}{
	{[]byte{0xA6, 0x84}, "LDA ,X"},
	{[]byte{0x20, 0xFE}, "BRA $1000"},
	{[]byte{0x20, 0x7F}, "BRA $1081"},
	{[]byte{0x20, 0x80}, "BRA $0F82"},
	{[]byte{0x10, 0x27, 0xFF, 0xFC}, "LBEQ $1000"},
	{[]byte{0x16, 0xEF, 0xFD}, "LBRA $0000"},
	{[]byte{0x16, 0xEF, 0xFC}, "LBRA $FFFF"},
	{[]byte{0x8D, 0x00}, "BSR $1002"},
	{[]byte{0x17, 0x00, 0x00}, "LBSR $1003"},
	{[]byte{0x86, 0x05}, "LDA #$05"},
	{[]byte{0xCC, 0x00, 0x05}, "LDD #$0005"},
	{[]byte{0x10, 0xCE, 0xAB, 0xCD}, "LDS #$ABCD"},
	{[]byte{0x1A, 0x50}, "ORCC #$50"},
	{[]byte{0x3C, 0xFF}, "CWAI #$FF"},
	{[]byte{0x97, 0x0F}, "STA <$0F"},
	{[]byte{0x0E, 0x10}, "JMP <$10"},
	{[]byte{0xB7, 0x01, 0x00}, "STA >$0100"},
	{[]byte{0x7F, 0x00, 0x01}, "CLR >$0001"},
	{[]byte{0x12}, "NOP"},
	{[]byte{0x3F}, "SWI"},
	{[]byte{0x10, 0x3F}, "SWI2"},
	{[]byte{0x11, 0x3F}, "SWI3"},
	{[]byte{0x48}, "ASLA"},
	{[]byte{0x24, 0x00}, "BCC $1002"},
	{[]byte{0x1E, 0x01}, "EXG D,X"},
	{[]byte{0x1F, 0x8B}, "TFR A,DP"},
	{[]byte{0x1F, 0x6F}, "TFR R6,R15"},
	{[]byte{0x34, 0x00}, "PSHS"},
	{[]byte{0x34, 0xFF}, "PSHS CC,A,B,DP,X,Y,U,PC"},
	{[]byte{0x37, 0xFF}, "PULU CC,A,B,DP,X,Y,S,PC"},
	{[]byte{0x35, 0x82}, "PULS A,PC"},
	{[]byte{0x30, 0x00}, "LEAX 0,X"},
	{[]byte{0x31, 0x2F}, "LEAY 15,Y"},
	{[]byte{0x33, 0x50}, "LEAU -16,U"},
	{[]byte{0x32, 0x7F}, "LEAS -1,S"},
	{[]byte{0x30, 0x88, 0x05}, "LEAX <5,X"},
	{[]byte{0x30, 0x88, 0x80}, "LEAX <-128,X"},
	{[]byte{0x30, 0x88, 0x7F}, "LEAX <127,X"},
	{[]byte{0x30, 0x89, 0x00, 0x05}, "LEAX >$0005,X"},
	{[]byte{0x30, 0xE9, 0xFF, 0xFF}, "LEAX >$FFFF,S"},
	{[]byte{0x30, 0x8C, 0xFE}, "LEAX <-2,PC"},
	{[]byte{0x30, 0x9D, 0x12, 0x34}, "LEAX [>$1234,PC]"},
	{[]byte{0x6E, 0x9F, 0xFF, 0xF8}, "JMP [$FFF8]"},
	{[]byte{0xA6, 0xC5}, "LDA B,U"},
	{[]byte{0xA6, 0xBB}, "LDA [D,Y]"},
	{[]byte{0xA6, 0xE3}, "LDA ,--S"},
	{[]byte{0xA6, 0xA0}, "LDA ,Y+"},
	{[]byte{0xA6, 0xB8, 0xFF}, "LDA [<-1,Y]"},
	{[]byte{0x10, 0xAE, 0x81}, "LDY ,X++"},
	{[]byte{0x01}, "FCB $01"},
	{[]byte{0x87}, "FCB $87"},
	{[]byte{0x10, 0x20}, "FCB $10,$20"},
	{[]byte{0x11, 0x10}, "FCB $11,$10"},
	{[]byte{0xA6, 0x87}, "FCB $A6,$87"},
	{[]byte{0x10, 0xEE, 0xBF, 0x0A, 0xB0}, "FCB $10,$EE,$BF,$0A,$B0"},
	{[]byte{0xA6, 0xCC, 0x05}, "FCB $A6,$CC,$05"},
}

func TestP42_2Known(t *testing.T) {
	for _, c := range known {
		i, e := inst.Of(c.b...)
		if got := dis.Text(i, 0x1000); e != api.OK || i.Len != len(c.b) || got != c.text {
			t.Errorf("Text of % X: %s, not %s", c.b, got, c.text)
		}
	}
	i, _ := inst.Of(0x20, 0x00)
	if got := dis.Text(i, 0xFFFE); got != "BRA $0000" {
		t.Errorf("a branch at FFFE: %s", got)
	}
}

// memory: one that begins with these bytes at an address, and goes on at 0 behind the last one.
func memory(t *testing.T, at int, b ...byte) *ram.Ram {
	t.Helper()
	image := make([]byte, 65536)
	for i, x := range b {
		image[(at+i)%65536] = x
	}
	m, e := ram.New(image, 65536)
	if e != api.OK {
		t.Fatal(e)
	}
	return m
}

func TestP42_3Line(t *testing.T) {
	for _, c := range []struct {
		at   int
		b    []byte
		want string
		next uint16
	}{
		{0, []byte{0x12}, "0000 12         NOP", 1},
		{0x1000, []byte{0xA6, 0x84}, "1000 A684       LDA ,X", 0x1002},
		{0x1000, []byte{0x20, 0xFE}, "1000 20FE       BRA $1000", 0x1002},
		{0xABCD, []byte{0xB7, 0x01, 0x00}, "ABCD B70100     STA >$0100", 0xABD0},
		{0x00FF, []byte{0x10, 0x8E, 0x01, 0x02}, "00FF 108E0102   LDY #$0102", 0x0103},
		{0x0010, []byte{0x10, 0xAE, 0x89, 0xAB, 0xCD}, "0010 10AE89ABCD LDY >$ABCD,X", 0x0015},
		{0xFFFF, []byte{0x12}, "FFFF 12         NOP", 0},
		{0xFFFE, []byte{0x10, 0xAE, 0x89, 0xAB, 0xCD}, "FFFE 10AE89ABCD LDY >$ABCD,X", 3},
		{0xFFFE, []byte{0x20, 0x00}, "FFFE 2000       BRA $0000", 0},
		{0x0005, []byte{0x10, 0x10, 0x12}, "0005 1010       FCB $10,$10", 7},
	} {
		got, next := dis.Line(uint16(c.at), memory(t, c.at, c.b...))
		if got != c.want || next != c.next {
			t.Errorf("Line of % X: %q, %04X, not %q, %04X", c.b, got, next, c.want, c.next)
		}
	}
}

func TestP42_3Any(t *testing.T) {
	every(func(i api.Inst, b []byte, at uint16) {
		if at%37 > 0 {
			return
		}
		m := memory(t, int(at), b...)
		text, _ := wanted(i, b, at)
		got, next := dis.Line(at, m)
		if want := fmt.Sprintf("%04X %-11s%s", at, fmt.Sprintf("%X", b), text); got != want || next != at+uint16(len(b)) {
			t.Fatalf("Line of % X: %q, %04X, not %q", b, got, next, want)
		}
	})
}

func TestP42_3Lines(t *testing.T) {
	m := memory(t, 0xFFFC, 0x86, 0x05, 0x20, 0x00, 0xB7, 0x01, 0x00, 0x12)
	want := []string{"FFFC 8605       LDA #$05", "FFFE 2000       BRA $0000", "0000 B70100     STA >$0100", "0003 12         NOP", "0004 0000       NEG <$00"}
	for n := range 6 {
		if got := dis.Lines(0xFFFC, n, m); !slices.Equal(got, want[:n]) {
			t.Errorf("%d Lines: %q", n, got)
		}
	}
	for _, n := range []int{0, -1, -1 << 63} {
		if got := dis.Lines(0, n, m); len(got) > 0 {
			t.Errorf("%d Lines: %q", n, got)
		}
	}
	many := dis.Lines(0, 40000, memory(t, 0))
	if len(many) != 40000 || many[32768] != many[0] || many[32767] != "FFFE 0000       NEG <$00" {
		t.Error("round the end of memory")
	}
	many[0] = ""
	if dis.Lines(0, 1, memory(t, 0))[0] == "" {
		t.Error("Lines isn't new memory")
	}
}

// broken is a memory that panics.
type broken struct{}

func (broken) Read(uint16) byte        { panic("no byte") }
func (broken) Write(uint16, byte) bool { panic("no place") }

func TestP1Any(t *testing.T) {
	if s, next := dis.Line(9, nil); s != "0009 0000       NEG <$00" || next != 11 {
		t.Errorf("no memory: %q, %d", s, next)
	}
	if s, next := dis.Line(9, broken{}); s != "0009 0000       NEG <$00" || next != 11 {
		t.Errorf("a memory that panics: %q, %d", s, next)
	}
	if got := dis.Lines(0, 2, nil); len(got) != 2 {
		t.Errorf("Lines of no memory: %q", got)
	}
	// Of what no bytes say nothing is promised, but that it ends.
	r := rand.New(rand.NewSource(43))
	wild := func() int { return []int{0, 1, 2, 5, 9, 60, -1, 1 << 40, -1 << 63, r.Intn(60)}[r.Intn(10)] }
	for range 20000 {
		i := api.Inst{Page: wild(), Code: byte(r.Intn(256)), Post: byte(r.Intn(256)), Value: uint16(r.Intn(65536)), Len: wild()}
		i.Entry = api.Entry{Op: wild(), Mode: wild(), Reg: wild()}
		dis.Text(i, 5)
		dis.Sure(i)
		dis.Reg(wild())
	}
}

func TestP2Again(t *testing.T) {
	m := memory(t, 0, 0x86, 0x05, 0x20, 0x00)
	a := dis.Lines(0, 3, m)
	dis.Lines(1, 7, m)
	if b := dis.Lines(0, 3, m); !slices.Equal(a, b) || m.Read(0) != 0x86 {
		t.Error("another answer")
	}
}
