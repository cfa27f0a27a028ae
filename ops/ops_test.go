package ops_test

import (
	"math"
	"strings"
	"testing"

	"spinet/api"
	"spinet/ops"
)

// key is an operation and a code.
type key struct{ op, reg int }

// strange are numbers of no operation, and of no register.
var strange = []int{-1, -2, -8, -51, -256, 52, 53, 64, 255, 256, 1 << 32, math.MaxInt, math.MinInt}

// conditions are their names, by their numbers.
const conditions = "RA RN HI LS CC CS NE EQ VC VS PL MI GE LT GT LE"

// names: all names that the document lists, each written out, with what it stands for.
func names() map[key]string {
	all := map[key]string{}
	row := func(op int, list string, codes ...int) {
		for i, name := range strings.Fields(list) {
			all[key{op, codes[i]}] = name
		}
	}
	row(api.OpAdc, "ADCA ADCB", 8, 9)
	row(api.OpAdd, "ADDA ADDB", 8, 9)
	row(api.OpAnd, "ANDA ANDB", 8, 9)
	row(api.OpBit, "BITA BITB", 8, 9)
	row(api.OpCmp, "CMPA CMPB", 8, 9)
	row(api.OpEor, "EORA EORB", 8, 9)
	row(api.OpOr, "ORA ORB", 8, 9)
	row(api.OpSbc, "SBCA SBCB", 8, 9)
	row(api.OpSub, "SUBA SUBB", 8, 9)
	row(api.OpLd, "LDA LDB", 8, 9)
	row(api.OpSt, "STA STB", 8, 9)
	row(api.OpNeg, "NEG NEGA NEGB", 0, 8, 9)
	row(api.OpCom, "COM COMA COMB", 0, 8, 9)
	row(api.OpLsr, "LSR LSRA LSRB", 0, 8, 9)
	row(api.OpRor, "ROR RORA RORB", 0, 8, 9)
	row(api.OpAsr, "ASR ASRA ASRB", 0, 8, 9)
	row(api.OpAsl, "ASL ASLA ASLB", 0, 8, 9)
	row(api.OpRol, "ROL ROLA ROLB", 0, 8, 9)
	row(api.OpDec, "DEC DECA DECB", 0, 8, 9)
	row(api.OpInc, "INC INCA INCB", 0, 8, 9)
	row(api.OpTst, "TST TSTA TSTB", 0, 8, 9)
	row(api.OpClr, "CLR CLRA CLRB", 0, 8, 9)
	row(api.OpLdw, "LDD LDX LDY LDU LDS", 0, 1, 2, 3, 4)
	row(api.OpStw, "STD STX STY STU STS", 0, 1, 2, 3, 4)
	row(api.OpCmpw, "CMPD CMPX CMPY CMPU CMPS", 0, 1, 2, 3, 4)
	row(api.OpAddw, "ADDD", 0)
	row(api.OpSubw, "SUBD", 0)
	row(api.OpLea, "LEAX LEAY LEAU LEAS", 1, 2, 3, 4)
	row(api.OpPsh, "PSHU PSHS", 3, 4)
	row(api.OpPul, "PULU PULS", 3, 4)
	row(api.OpSwi, "SWI SWI2 SWI3", 1, 2, 3)
	for n, c := range strings.Fields(conditions) {
		all[key{api.OpBr, n}] = "B" + c
		if n > 0 {
			all[key{api.OpLbr, n}] = "LB" + c
		}
	}
	for op, name := range map[int]string{
		api.OpAbx: "ABX", api.OpJmp: "JMP", api.OpJsr: "JSR", api.OpLbra: "LBRA", api.OpBsr: "BSR", api.OpLbsr: "LBSR",
		api.OpNop: "NOP", api.OpSync: "SYNC", api.OpCwai: "CWAI", api.OpDaa: "DAA", api.OpOrcc: "ORCC", api.OpAndcc: "ANDCC",
		api.OpSex: "SEX", api.OpExg: "EXG", api.OpTfr: "TFR", api.OpRts: "RTS", api.OpRti: "RTI", api.OpMul: "MUL",
	} {
		all[key{op, 0}] = name
	}
	return all
}

// others are the names that stand beside those that Name answers.
var others = map[string]string{
	"LSL": "ASL", "LSLA": "ASLA", "LSLB": "ASLB", "BHS": "BCC", "BLO": "BCS", "LBHS": "LBCC", "LBLO": "LBCS",
}

// meanings: what each text that is a name stands for.
func meanings() map[string]key {
	all := map[string]key{}
	for k, name := range names() {
		all[name] = k
	}
	for name, usual := range others {
		all[name] = all[usual]
	}
	return all
}

func TestP13_1Group(t *testing.T) {
	groups := map[int][]int{
		ops.GroupRead:   {api.OpAdc, api.OpAdd, api.OpAnd, api.OpBit, api.OpCmp, api.OpEor, api.OpOr, api.OpSbc, api.OpSub, api.OpLd},
		ops.GroupWrite:  {api.OpSt},
		ops.GroupChange: {api.OpNeg, api.OpCom, api.OpLsr, api.OpRor, api.OpAsr, api.OpAsl, api.OpRol, api.OpDec, api.OpInc, api.OpClr},
		ops.GroupTest:   {api.OpTst},
		ops.GroupLoadw:  {api.OpLdw},
		ops.GroupStorew: {api.OpStw},
		ops.GroupCalcw:  {api.OpAddw, api.OpSubw, api.OpCmpw},
		ops.GroupLea:    {api.OpLea},
		ops.GroupJump:   {api.OpJmp},
		ops.GroupCall:   {api.OpJsr},
	}
	want := map[int]int{}
	for g, list := range groups {
		for _, op := range list {
			want[op] = g
		}
	}
	for op := -300; op < 300; op++ {
		if got := ops.Group(op); got != want[op] {
			t.Errorf("Group(%d): %d, not %d", op, got, want[op])
		}
	}
	for _, op := range strange {
		if got := ops.Group(op); got != ops.GroupNone {
			t.Errorf("Group(%d): %d", op, got)
		}
	}
}

func TestP13_1GroupNumbers(t *testing.T) {
	got := []int{
		ops.GroupNone, ops.GroupRead, ops.GroupWrite, ops.GroupChange, ops.GroupTest, ops.GroupLoadw,
		ops.GroupStorew, ops.GroupCalcw, ops.GroupLea, ops.GroupJump, ops.GroupCall,
	}
	for want, n := range got {
		if n != want {
			t.Errorf("the group %d has the number %d", want, n)
		}
	}
}

func TestP13_1Reg(t *testing.T) {
	want := map[int]string{0: "D", 1: "X", 2: "Y", 3: "U", 4: "S", 5: "PC", 8: "A", 9: "B", 10: "CC", 11: "DP"}
	for code := -300; code < 300; code++ {
		if got := ops.Reg(code); got != want[code] {
			t.Errorf("Reg(%d): %q, not %q", code, got, want[code])
		}
	}
	for _, code := range strange {
		if got := ops.Reg(code); got != "" {
			t.Errorf("Reg(%d): %q", code, got)
		}
	}
	for code, name := range want {
		if got, ok := ops.FindReg(name); got != code || !ok {
			t.Errorf("FindReg(%s): %d, %v", name, got, ok)
		}
	}
}

func TestP13_1FindReg(t *testing.T) {
	for _, s := range []string{"", "d", "pc", "Pc", "P", "W", "PCR", "PC ", " A", "AB", "DD", "R0", "0", "CCC", "X,", "\x00", "é", strings.Repeat("X", 1000)} {
		if code, ok := ops.FindReg(s); code != 0 || ok {
			t.Errorf("FindReg(%q): %d, %v", s, code, ok)
		}
	}
	found := 0
	for a := range 256 {
		for _, s := range []string{string([]byte{byte(a)}), "C" + string([]byte{byte(a)}), "D" + string([]byte{byte(a)}), "P" + string([]byte{byte(a)})} {
			if code, ok := ops.FindReg(s); ok {
				found++
			} else if code != 0 {
				t.Fatalf("FindReg(%q): %d", s, code)
			}
		}
	}
	if found != 10 {
		t.Errorf("%d names", found)
	}
}

func TestP13_2Name(t *testing.T) {
	want := names()
	// No name stands for two things, else Find could not tell them.
	if len(want) != 132 || len(meanings()) != 132+len(others) {
		t.Fatalf("%d names are listed here, %d of them unlike", len(want), len(meanings())-len(others))
	}
	codes := append([]int{}, strange...)
	for code := -20; code < 52; code++ {
		codes = append(codes, code)
	}
	for op := -20; op < 80; op++ {
		for _, code := range codes {
			if got := ops.Name(op, code); got != want[key{op, code}] {
				t.Errorf("Name(%d, %d): %q, not %q", op, code, got, want[key{op, code}])
			}
		}
	}
	for _, op := range strange {
		for _, code := range codes {
			if got := ops.Name(op, code); got != "" {
				t.Errorf("Name(%d, %d): %q", op, code, got)
			}
		}
	}
}

func TestP13_2Find(t *testing.T) {
	for name, want := range meanings() {
		if op, reg, ok := ops.Find(name); op != want.op || reg != want.reg || !ok {
			t.Errorf("Find(%s): %d, %d, %v", name, op, reg, ok)
		}
		// A sign more, one less, another one, and small letters.
		for _, s := range []string{name + " ", " " + name, name + "A", name + "D", name + "X", "L" + name, name[1:], name[:len(name)-1], name[:1] + "Q" + name[2:], strings.ToLower(name), name + "\x00"} {
			checkFind(t, s, meanings())
		}
	}
	for _, s := range []string{"", "LBRA2", "SWI1", "SWI4", "LSLD", "LSLX", "BHSA", "LHS", "HS", "LO", "LSRD", "ORD", "LDCC", "LDPC", "LDDP", "PSHX", "PULD", "LEAD", "LEAPC", "ADDX", "SUBX", "TFRD", "EQU", "ORG", "é", strings.Repeat("ADC", 1000)} {
		checkFind(t, s, meanings())
	}
}

// checkFind: is a text found just if it is a name?
func checkFind(t *testing.T, s string, all map[string]key) {
	t.Helper()
	op, reg, ok := ops.Find(s)
	want, listed := all[s]
	if ok != listed || op != want.op || reg != want.reg {
		t.Errorf("Find(%q): %d, %d, %v", s, op, reg, ok)
	}
}

// Of all texts of up to four of these signs just the names are found.
func TestP13_2FindEach(t *testing.T) {
	const signs = "ABCDEFGHIJKLMNOPQRSTUVWXYZ1234"
	all := meanings()
	texts := []string{""}
	for range 4 {
		var longer []string
		for _, s := range texts {
			for _, c := range signs {
				longer = append(longer, s+string(c))
			}
		}
		for _, s := range longer {
			checkFind(t, s, all)
		}
		texts = longer
	}
}

// The same is answered again (P2 of DOC.md).
func TestP2SameAgain(t *testing.T) {
	for range 2 {
		if ops.Name(api.OpLdw, api.RegX) != "LDX" || ops.Reg(api.RegPC) != "PC" || ops.Group(api.OpLdw) != ops.GroupLoadw {
			t.Error("something else is answered the second time")
		}
		if op, reg, ok := ops.Find("LSLA"); op != api.OpAsl || reg != api.RegA || !ok {
			t.Error("Find answers something else the second time")
		}
	}
}
