package core_test

import (
	"math/rand"
	"strings"
	"testing"

	"spinet/api"
	"spinet/core"
	"spinet/digit"
)

// said: cycles as words: the address; = and the byte that is written; b BUSY, s BS; + AVMA; at the end of a row a point (LIC and AVMA), S or C (it waits, as SYNC or CWAI does), and an exclamation mark, if S was loaded; else a question mark.
func said(l []cycle) string {
	var words []string
	for _, x := range l {
		w := digit.Hex(uint64(x.bus.Addr), 4)
		if !x.bus.Read {
			w += "=" + digit.Pairs(x.bus.Data)
		} else if x.bus.Data != 0 {
			w += "?"
		}
		if x.bus.BUSY {
			w += "b"
		}
		if x.bus.BS {
			w += "s"
		}
		s := x.sign
		loads := s.Loads
		s.Loads = false
		switch s {
		case core.Sign{}:
		case core.Sign{AVMA: true}:
			w += "+"
		case core.Sign{LIC: true, AVMA: true, End: core.Ends}:
			w += "."
		case core.Sign{End: core.Sync}:
			w += "S"
		case core.Sign{End: core.Cwai}:
			w += "C"
		default:
			w += "?"
		}
		if loads {
			w += "!"
		}
		words = append(words, w)
	}
	return strings.Join(words, " ")
}

// tracing are the registers from which the traces below go.
func tracing() api.Regs {
	return api.Regs{A: 0x01, B: 0x02, DP: 0x20, X: 0x3000, Y: 0x1234, U: 0x7000, S: 0x1000, PC: 0x0100}
}

// trace is a row, written by hand: its instruction's bytes at 0100 (none: of the kind), other bytes at addresses, its cycles; what registers it leaves, by what it changes.
type trace struct {
	name   string
	kind   int
	code   []byte
	data   map[uint16][]byte
	ahead  func(*api.Regs)
	cycles string
	then   func(*api.Regs)
}

// check: does the row go as it is written?
func (x trace) check(t *testing.T) {
	t.Helper()
	regs := tracing()
	if x.ahead != nil {
		x.ahead(&regs)
	}
	m := holding(x.data)
	for i, b := range x.code {
		m.write(regs.PC+uint16(i), b)
	}
	c := core.New(regs)
	if got := said(play(t, c, x.kind, m, rand.New(rand.NewSource(1)))); got != x.cycles {
		t.Errorf("%s:\n%s, not\n%s", x.name, got, x.cycles)
	}
	want := regs
	x.then(&want)
	if c.Now() != want {
		t.Errorf("%s: %+v, not %+v", x.name, c.Now(), want)
	}
}

func checkAll(t *testing.T, l []trace) {
	t.Helper()
	for _, x := range l {
		x.check(t)
	}
}

func TestP27_2Immediate(t *testing.T) {
	checkAll(t, []trace{
		{name: "NOP", code: []byte{0x12}, cycles: "0100+ 0101.", then: func(r *api.Regs) { r.PC = 0x0101 }},
		{name: "LDA #5", code: []byte{0x86, 5}, cycles: "0100+ 0101.", then: func(r *api.Regs) { r.A, r.PC = 5, 0x0102 }},
		{name: "CMPB #2", code: []byte{0xC1, 2}, cycles: "0100+ 0101.", then: func(r *api.Regs) { r.CC, r.PC = api.Z, 0x0102 }},
		{name: "BITA #80", code: []byte{0x85, 0x80}, cycles: "0100+ 0101.", then: func(r *api.Regs) { r.CC, r.PC = api.Z, 0x0102 }},
		{name: "ADDD #0E00", code: []byte{0xC3, 0x0E, 0}, cycles: "0100+ 0101+ 0102 FFFF.", then: func(r *api.Regs) { r.A, r.PC = 0x0F, 0x0103 }},
		{name: "LDS #8234", code: []byte{0x10, 0xCE, 0x82, 0x34}, cycles: "0100+ 0101+ 0102+ 0103.!", then: func(r *api.Regs) { r.S, r.CC, r.PC = 0x8234, api.N, 0x0104 }},
		{name: "LDX #0000", code: []byte{0x8E, 0, 0}, cycles: "0100+ 0101+ 0102.", then: func(r *api.Regs) { r.X, r.CC, r.PC = 0, api.Z, 0x0103 }},
		{name: "CMPS #1000", code: []byte{0x11, 0x8C, 0x10, 0}, cycles: "0100+ 0101+ 0102+ 0103 FFFF.", then: func(r *api.Regs) { r.CC, r.PC = api.Z, 0x0104 }},
		{name: "ORCC #50", code: []byte{0x1A, 0x50}, ahead: func(r *api.Regs) { r.CC = 3 }, cycles: "0100+ 0101 FFFF.", then: func(r *api.Regs) { r.CC, r.PC = 0x53, 0x0102 }},
		{name: "ANDCC #AF", code: []byte{0x1C, 0xAF}, ahead: func(r *api.Regs) { r.CC = 0x53 }, cycles: "0100+ 0101 FFFF.", then: func(r *api.Regs) { r.CC, r.PC = 3, 0x0102 }},
		{name: "LDA #5 over the end", code: []byte{0x86, 5}, ahead: func(r *api.Regs) { r.PC = 0xFFFF }, cycles: "FFFF+ 0000.", then: func(r *api.Regs) { r.A, r.PC = 5, 1 }},
	})
}

func TestP27_2Inherent(t *testing.T) {
	checkAll(t, []trace{
		{name: "COMB", code: []byte{0x53}, cycles: "0100+ 0101.", then: func(r *api.Regs) { r.B, r.CC, r.PC = 0xFD, api.N|api.C, 0x0101 }},
		{name: "CLRA", code: []byte{0x4F}, cycles: "0100+ 0101.", then: func(r *api.Regs) { r.A, r.CC, r.PC = 0, api.Z, 0x0101 }},
		{name: "TSTA", code: []byte{0x4D}, ahead: func(r *api.Regs) { r.A = 0x80 }, cycles: "0100+ 0101.", then: func(r *api.Regs) { r.CC, r.PC = api.N, 0x0101 }},
		{name: "DAA", code: []byte{0x19}, ahead: func(r *api.Regs) { r.A = 154 }, cycles: "0100+ 0101.", then: func(r *api.Regs) { r.A, r.CC, r.PC = 0, api.Z|api.C, 0x0101 }},
		{name: "SEX", code: []byte{0x1D}, ahead: func(r *api.Regs) { r.B = 200 }, cycles: "0100+ 0101.", then: func(r *api.Regs) { r.A, r.CC, r.PC = 255, api.N, 0x0101 }},
		{name: "ABX", code: []byte{0x3A}, ahead: func(r *api.Regs) { r.X, r.B, r.CC = 0xFFFF, 0xFF, 0xFF }, cycles: "0100+ 0101 FFFF.", then: func(r *api.Regs) { r.X, r.PC = 0x00FE, 0x0101 }},
		{name: "MUL", code: []byte{0x3D}, ahead: func(r *api.Regs) { r.A, r.B = 12, 100 }, cycles: "0100+ 0101 FFFF FFFF FFFF FFFF FFFF FFFF FFFF FFFF FFFF.", then: func(r *api.Regs) { r.A, r.B, r.CC, r.PC = 4, 176, api.C, 0x0101 }},
		{name: "what isn't listed", code: []byte{0x87}, cycles: "0100+ 0101.", then: func(r *api.Regs) { r.PC = 0x0101 }},
		{name: "what isn't listed behind a prefix", code: []byte{0x10, 0x12}, cycles: "0100+ 0101+ 0102.", then: func(r *api.Regs) { r.PC = 0x0102 }},
		{name: "a prefix behind a prefix", code: []byte{0x10, 0x11, 0x3F}, cycles: "0100+ 0101+ 0102.", then: func(r *api.Regs) { r.PC = 0x0102 }},
		{name: "a prefix behind itself", code: []byte{0x11, 0x11, 0x3F}, cycles: "0100+ 0101+ 0102.", then: func(r *api.Regs) { r.PC = 0x0102 }},
		{name: "SYNC", code: []byte{0x13}, cycles: "0100+ 0101 FFFFS", then: func(r *api.Regs) { r.PC = 0x0101 }},
	})
}

func TestP27_2Memory(t *testing.T) {
	checkAll(t, []trace{
		{name: "STA 0100", code: []byte{0xB7, 0x01, 0x00}, cycles: "0100+ 0101+ 0102 FFFF+ 0100=01.", then: func(r *api.Regs) { r.PC = 0x0103 }},
		{name: "LDB <10", code: []byte{0xD6, 0x10}, data: map[uint16][]byte{0x2010: {0x80}}, cycles: "0100+ 0101 FFFF+ 2010.", then: func(r *api.Regs) { r.B, r.CC, r.PC = 0x80, api.N, 0x0102 }},
		{name: "LDX <10", code: []byte{0x9E, 0x10}, data: map[uint16][]byte{0x2010: {0x91, 0x92}}, cycles: "0100+ 0101 FFFF+ 2010b+ 2011.", then: func(r *api.Regs) { r.X, r.CC, r.PC = 0x9192, api.N, 0x0102 }},
		{name: "LDD FFFF", code: []byte{0xFC, 0xFF, 0xFF}, data: map[uint16][]byte{0xFFFF: {0x11, 0x22}}, cycles: "0100+ 0101+ 0102 FFFF+ FFFFb+ 0000.", then: func(r *api.Regs) { r.A, r.B, r.PC = 0x11, 0x22, 0x0103 }},
		{name: "SUBD <FF", code: []byte{0x93, 0xFF}, data: map[uint16][]byte{0x20FF: {0x01, 0x02}}, cycles: "0100+ 0101 FFFF+ 20FFb+ 2100 FFFF.", then: func(r *api.Regs) { r.A, r.B, r.CC, r.PC = 0, 0, api.Z, 0x0102 }},
		{name: "INC 3000", code: []byte{0x7C, 0x30, 0}, data: map[uint16][]byte{0x3000: {0x7F}}, cycles: "0100+ 0101+ 0102 FFFF+ 3000b FFFFb+ 3000=80.", then: func(r *api.Regs) { r.CC, r.PC = api.N|api.V, 0x0103 }},
		{name: "TST <10", code: []byte{0x0D, 0x10}, data: map[uint16][]byte{0x2010: {0x80}}, cycles: "0100+ 0101 FFFF+ 2010 FFFF FFFF.", then: func(r *api.Regs) { r.CC, r.PC = api.N, 0x0102 }},
		{name: "STS <10", code: []byte{0x10, 0xDF, 0x10}, cycles: "0100+ 0101+ 0102 FFFF+ 2010=10b+ 2011=00.", then: func(r *api.Regs) { r.PC = 0x0103 }},
		{name: "JMP <10", code: []byte{0x0E, 0x10}, cycles: "0100+ 0101 FFFF.", then: func(r *api.Regs) { r.PC = 0x2010 }},
		{name: "JSR 3000", code: []byte{0xBD, 0x30, 0}, cycles: "0100+ 0101+ 0102 FFFF+ 3000 FFFF+ 0FFF=03+ 0FFE=01.", then: func(r *api.Regs) { r.S, r.PC = 0x0FFE, 0x3000 }},
	})
}

func TestP27_3Indexed(t *testing.T) {
	checkAll(t, []trace{
		{name: "LEAX 1,X", code: []byte{0x30, 0x01}, ahead: func(r *api.Regs) { r.X = 7 }, cycles: "0100+ 0101 FFFF FFFF FFFF.", then: func(r *api.Regs) { r.X, r.PC = 8, 0x0102 }},
		{name: "LEAY -1,X", code: []byte{0x31, 0x1F}, ahead: func(r *api.Regs) { r.X = 1 }, cycles: "0100+ 0101 FFFF FFFF FFFF.", then: func(r *api.Regs) { r.Y, r.CC, r.PC = 0, api.Z, 0x0102 }},
		{name: "LEAX ,X++", code: []byte{0x30, 0x81}, cycles: "0100+ 0101 FFFF FFFF FFFF FFFF FFFF.", then: func(r *api.Regs) { r.PC = 0x0102 }},
		{name: "LEAS 2,S", code: []byte{0x32, 0x62}, ahead: func(r *api.Regs) { r.CC = 0xFF }, cycles: "0100+ 0101 FFFF FFFF FFFF.!", then: func(r *api.Regs) { r.S, r.PC = 0x1002, 0x0102 }},
		{name: "LEAU 0,X of nought", code: []byte{0x33, 0x84}, ahead: func(r *api.Regs) { r.X = 0 }, cycles: "0100+ 0101 FFFF FFFF.", then: func(r *api.Regs) { r.U, r.PC = 0, 0x0102 }},
		{name: "STY ,X++", code: []byte{0x10, 0xAF, 0x81}, cycles: "0100+ 0101+ 0102 FFFF FFFF FFFF FFFF+ 3000=12b+ 3001=34.", then: func(r *api.Regs) { r.X, r.PC = 0x3002, 0x0103 }},
		{name: "STX ,X++", code: []byte{0xAF, 0x81}, cycles: "0100+ 0101 FFFF FFFF FFFF FFFF+ 3000=30b+ 3001=02.", then: func(r *api.Regs) { r.X, r.PC = 0x3002, 0x0102 }},
		{name: "LDX ,--X", code: []byte{0xAE, 0x83}, data: map[uint16][]byte{0x2FFE: {0x55, 0x66}}, cycles: "0100+ 0101 FFFF FFFF FFFF FFFF+ 2FFEb+ 2FFF.", then: func(r *api.Regs) { r.X, r.PC = 0x5566, 0x0102 }},
		{name: "LDA [,X]", code: []byte{0xA6, 0x94}, data: map[uint16][]byte{0x3000: {0x40, 0x01}, 0x4001: {0x77}}, cycles: "0100+ 0101 FFFF+ 3000b+ 3001 FFFF+ 4001.", then: func(r *api.Regs) { r.A, r.PC = 0x77, 0x0102 }},
		{name: "LDA [,X] at the end", code: []byte{0xA6, 0x94}, ahead: func(r *api.Regs) { r.X = 0xFFFF }, data: map[uint16][]byte{0xFFFF: {0x40, 0x01}, 0x4001: {0x77}}, cycles: "0100+ 0101 FFFF+ FFFFb+ 0000 FFFF+ 4001.", then: func(r *api.Regs) { r.A, r.PC = 0x77, 0x0102 }},
		{name: "CLR [1000]", code: []byte{0x6F, 0x9F, 0x10, 0x00}, data: map[uint16][]byte{0x1000: {0x40, 0x01}}, cycles: "0100+ 0101+ 0102+ 0103 FFFF+ 1000b+ 1001 FFFF+ 4001b FFFFb+ 4001=00.", then: func(r *api.Regs) { r.CC, r.PC = api.Z, 0x0104 }},
		{name: "JMP [1000]", code: []byte{0x6E, 0x9F, 0x10, 0x00}, data: map[uint16][]byte{0x1000: {0x40, 0x01}}, cycles: "0100+ 0101+ 0102+ 0103 FFFF+ 1000b+ 1001 FFFF.", then: func(r *api.Regs) { r.PC = 0x4001 }},
		{name: "LDB -2,PC", code: []byte{0xE6, 0x8C, 0xFE}, cycles: "0100+ 0101+ 0102 FFFF+ 0101.", then: func(r *api.Regs) { r.B, r.CC, r.PC = 0x8C, api.N, 0x0103 }},
		{name: "LDB 0100,Y", code: []byte{0xE6, 0xA9, 0x01, 0x00}, data: map[uint16][]byte{0x1334: {0x01}}, cycles: "0100+ 0101+ 0102+ 0103 FFFF FFFF FFFF+ 1334.", then: func(r *api.Regs) { r.B, r.PC = 1, 0x0104 }},
		{name: "JSR [,S++]", code: []byte{0xAD, 0xF1}, data: map[uint16][]byte{0x1000: {0x50, 0x60}}, cycles: "0100+ 0101 FFFF FFFF FFFF FFFF+ 1000b+ 1001 FFFF+ 5060 FFFF+ 1001=02+ 1000=01.", then: func(r *api.Regs) { r.PC = 0x5060 }},
	})
}

func TestP27_3Branches(t *testing.T) {
	checkAll(t, []trace{
		{name: "BRA itself", code: []byte{0x20, 0xFE}, cycles: "0100+ 0101 FFFF.", then: func(r *api.Regs) {}},
		{name: "BRN", code: []byte{0x21, 0x10}, cycles: "0100+ 0101 FFFF.", then: func(r *api.Regs) { r.PC = 0x0102 }},
		{name: "BNE", code: []byte{0x26, 0x7F}, cycles: "0100+ 0101 FFFF.", then: func(r *api.Regs) { r.PC = 0x0181 }},
		{name: "BNE not", code: []byte{0x26, 0x7F}, ahead: func(r *api.Regs) { r.CC = api.Z }, cycles: "0100+ 0101 FFFF.", then: func(r *api.Regs) { r.PC = 0x0102 }},
		{name: "LBNE", code: []byte{0x10, 0x26, 0xFF, 0x00}, cycles: "0100+ 0101+ 0102+ 0103 FFFF FFFF.", then: func(r *api.Regs) { r.PC = 0x0004 }},
		{name: "LBNE not", code: []byte{0x10, 0x26, 0xFF, 0x00}, ahead: func(r *api.Regs) { r.CC = api.Z }, cycles: "0100+ 0101+ 0102+ 0103 FFFF.", then: func(r *api.Regs) { r.PC = 0x0104 }},
		{name: "LBRA", code: []byte{0x16, 0x12, 0x34}, cycles: "0100+ 0101+ 0102 FFFF FFFF.", then: func(r *api.Regs) { r.PC = 0x1337 }},
		{name: "BSR", code: []byte{0x8D, 0x10}, cycles: "0100+ 0101 FFFF+ 0112 FFFF+ 0FFF=02+ 0FFE=01.", then: func(r *api.Regs) { r.S, r.PC = 0x0FFE, 0x0112 }},
		{name: "LBSR", code: []byte{0x17, 0x00, 0x10}, cycles: "0100+ 0101+ 0102 FFFF FFFF+ 0113 FFFF+ 0FFF=03+ 0FFE=01.", then: func(r *api.Regs) { r.S, r.PC = 0x0FFE, 0x0113 }},
		{name: "RTS", code: []byte{0x39}, data: map[uint16][]byte{0x1000: {0x12, 0x34}}, cycles: "0100+ 0101+ 1000+ 1001 FFFF.", then: func(r *api.Regs) { r.S, r.PC = 0x1002, 0x1234 }},
	})
}

func TestP27_3Lists(t *testing.T) {
	checkAll(t, []trace{
		{name: "TFR A,DP", code: []byte{0x1F, 0x8B}, cycles: "0100+ 0101 FFFF FFFF FFFF FFFF.", then: func(r *api.Regs) { r.DP, r.PC = 1, 0x0102 }},
		{name: "TFR X,S", code: []byte{0x1F, 0x14}, cycles: "0100+ 0101 FFFF FFFF FFFF FFFF.!", then: func(r *api.Regs) { r.S, r.PC = 0x3000, 0x0102 }},
		{name: "TFR S,X", code: []byte{0x1F, 0x41}, cycles: "0100+ 0101 FFFF FFFF FFFF FFFF.", then: func(r *api.Regs) { r.X, r.PC = 0x1000, 0x0102 }},
		{name: "TFR X,PC", code: []byte{0x1F, 0x15}, cycles: "0100+ 0101 FFFF FFFF FFFF FFFF.", then: func(r *api.Regs) { r.PC = 0x3000 }},
		{name: "TFR PC,X", code: []byte{0x1F, 0x51}, cycles: "0100+ 0101 FFFF FFFF FFFF FFFF.", then: func(r *api.Regs) { r.X, r.PC = 0x0102, 0x0102 }},
		{name: "EXG S,X", code: []byte{0x1E, 0x41}, cycles: "0100+ 0101 FFFF FFFF FFFF FFFF FFFF FFFF.!", then: func(r *api.Regs) { r.X, r.S, r.PC = 0x1000, 0x3000, 0x0102 }},
		{name: "EXG PC,Y", code: []byte{0x1E, 0x52}, cycles: "0100+ 0101 FFFF FFFF FFFF FFFF FFFF FFFF.", then: func(r *api.Regs) { r.Y, r.PC = 0x0102, 0x1234 }},
		{name: "PSHS of none", code: []byte{0x34, 0}, cycles: "0100+ 0101 FFFF FFFF+ 1000.", then: func(r *api.Regs) { r.PC = 0x0102 }},
		{name: "PSHS CC,D", code: []byte{0x34, 0x07}, ahead: func(r *api.Regs) { r.CC = 0x5A }, cycles: "0100+ 0101 FFFF FFFF+ 1000+ 0FFF=02+ 0FFE=01+ 0FFD=5A.", then: func(r *api.Regs) { r.S, r.PC = 0x0FFD, 0x0102 }},
		{name: "PSHU S,PC", code: []byte{0x36, 0xC0}, cycles: "0100+ 0101 FFFF FFFF+ 7000+ 6FFF=02+ 6FFE=01+ 6FFD=00+ 6FFC=10.", then: func(r *api.Regs) { r.U, r.PC = 0x6FFC, 0x0102 }},
		{name: "PSHS U", code: []byte{0x34, 0x40}, ahead: func(r *api.Regs) { r.S = 1 }, cycles: "0100+ 0101 FFFF FFFF+ 0001+ 0000=00+ FFFF=70.", then: func(r *api.Regs) { r.S, r.PC = 0xFFFF, 0x0102 }},
		{name: "PULS of none", code: []byte{0x35, 0}, cycles: "0100+ 0101 FFFF FFFF+ 1000.", then: func(r *api.Regs) { r.PC = 0x0102 }},
		{name: "PULS A,U", code: []byte{0x35, 0x42}, data: map[uint16][]byte{0x1000: {0x11, 0x22, 0x33}}, cycles: "0100+ 0101 FFFF FFFF+ 1000+ 1001+ 1002+ 1003.", then: func(r *api.Regs) { r.A, r.U, r.S, r.PC = 0x11, 0x2233, 0x1003, 0x0102 }},
		{name: "PULU S,PC", code: []byte{0x37, 0xC0}, data: map[uint16][]byte{0x7000: {0x11, 0x22, 0x33, 0x44}}, cycles: "0100+ 0101 FFFF FFFF+ 7000+ 7001+ 7002+ 7003+ 7004.!", then: func(r *api.Regs) { r.S, r.U, r.PC = 0x1122, 0x7004, 0x3344 }},
	})
}

// rest: what all rows that push all registers push, from 1000 down, with PC's low byte and the codes.
func rest(pc, cc string) string {
	return "0FFF=" + pc + "+ 0FFE=01+ 0FFD=00+ 0FFC=70+ 0FFB=34+ 0FFA=12+ 0FF9=00+ 0FF8=30+ 0FF7=20+ 0FF6=02+ 0FF5=01+ 0FF4=" + cc
}

// vectors: where they lead.
func vectors() map[uint16][]byte {
	return map[uint16][]byte{0xFFF2: {0xA2, 1, 0xA4, 2, 0xA6, 3, 0xA8, 4, 0xAA, 5, 0xAC, 6, 0xAE, 7}}
}

func TestP27_3SoftwareInterrupts(t *testing.T) {
	pulled := map[uint16][]byte{0x1000: {0x80, 2, 3, 4, 5, 6, 7, 8, 9, 10, 11, 12}}
	checkAll(t, []trace{
		{name: "SWI", code: []byte{0x3F}, ahead: func(r *api.Regs) { r.CC = 3 }, data: vectors(), cycles: "0100+ 0101 FFFF+ " + rest("01", "83") + " FFFF+ FFFAbs+ FFFBs FFFF.",
			then: func(r *api.Regs) { r.S, r.CC, r.PC = 0x0FF4, 0xD3, 0xAA05 }},
		{name: "SWI2", code: []byte{0x10, 0x3F}, ahead: func(r *api.Regs) { r.CC = 3 }, data: vectors(), cycles: "0100+ 0101+ 0102 FFFF+ " + rest("02", "83") + " FFFF+ FFF4bs+ FFF5s FFFF.",
			then: func(r *api.Regs) { r.S, r.CC, r.PC = 0x0FF4, 0x83, 0xA402 }},
		{name: "SWI3", code: []byte{0x11, 0x3F}, ahead: func(r *api.Regs) { r.CC = 0x50 }, data: vectors(), cycles: "0100+ 0101+ 0102 FFFF+ " + rest("02", "D0") + " FFFF+ FFF2bs+ FFF3s FFFF.",
			then: func(r *api.Regs) { r.S, r.CC, r.PC = 0x0FF4, 0xD0, 0xA201 }},
		{name: "CWAI #EF", code: []byte{0x3C, 0xEF}, ahead: func(r *api.Regs) { r.CC = 0x53 }, cycles: "0100+ 0101+ 0102 FFFF+ " + rest("02", "C3") + "C",
			then: func(r *api.Regs) { r.S, r.CC, r.PC = 0x0FF4, 0xC3, 0x0102 }},
		{name: "RTI of CC and PC", code: []byte{0x3B}, data: map[uint16][]byte{0x1000: {0x7F, 2, 3, 4}}, cycles: "0100+ 0101+ 1000+ 1001+ 1002+ 1003.",
			then: func(r *api.Regs) { r.S, r.CC, r.PC = 0x1003, 0x7F, 0x0203 }},
		{name: "RTI of all", code: []byte{0x3B}, data: pulled, cycles: "0100+ 0101+ 1000+ 1001+ 1002+ 1003+ 1004+ 1005+ 1006+ 1007+ 1008+ 1009+ 100A+ 100B+ 100C.",
			then: func(r *api.Regs) {
				*r = api.Regs{A: 2, B: 3, DP: 4, CC: 0x80, X: 0x0506, Y: 0x0708, U: 0x090A, S: 0x100C, PC: 0x0B0C}
			}},
	})
}

func TestP27_3OtherRows(t *testing.T) {
	codes := func(cc byte) func(*api.Regs) { return func(r *api.Regs) { r.CC = cc } }
	checkAll(t, []trace{
		{name: "NMI", kind: api.RowNmi, ahead: codes(0x05), data: vectors(), cycles: "0100+ 0100 FFFF+ " + rest("00", "85") + " FFFF+ FFFCbs+ FFFDs FFFF.",
			then: func(r *api.Regs) { r.S, r.CC, r.PC = 0x0FF4, 0xD5, 0xAC06 }},
		{name: "IRQ", kind: api.RowIrq, ahead: codes(0x05), data: vectors(), cycles: "0100+ 0100 FFFF+ " + rest("00", "85") + " FFFF+ FFF8bs+ FFF9s FFFF.",
			then: func(r *api.Regs) { r.S, r.CC, r.PC = 0x0FF4, 0x95, 0xA804 }},
		{name: "FIRQ", kind: api.RowFirq, ahead: codes(0x85), data: vectors(), cycles: "0100+ 0100 FFFF+ 0FFF=00+ 0FFE=01+ 0FFD=05 FFFF+ FFF6bs+ FFF7s FFFF.",
			then: func(r *api.Regs) { r.S, r.CC, r.PC = 0x0FFD, 0x55, 0xA603 }},
		{name: "RESET", kind: api.RowReset, ahead: codes(0x81), data: vectors(), cycles: "FFFEbs+ FFFFs FFFF.",
			then: func(r *api.Regs) { r.DP, r.CC, r.PC = 0, 0xD1, 0xAE07 }},
		{name: "NMI behind CWAI", kind: api.RowNmiW, ahead: codes(0x80), data: vectors(), cycles: "FFFCbs+ FFFDs FFFF.",
			then: func(r *api.Regs) { r.CC, r.PC = 0xD0, 0xAC06 }},
		{name: "FIRQ behind CWAI", kind: api.RowFirqW, ahead: codes(0x80), data: vectors(), cycles: "FFF6bs+ FFF7s FFFF.",
			then: func(r *api.Regs) { r.CC, r.PC = 0xD0, 0xA603 }},
		{name: "IRQ behind CWAI", kind: api.RowIrqW, ahead: codes(0x80), data: vectors(), cycles: "FFF8bs+ FFF9s FFFF.",
			then: func(r *api.Regs) { r.CC, r.PC = 0x90, 0xA804 }},
	})
}

// What is pushed over a vector is where it leads.
func TestP27_3PushOverVector(t *testing.T) {
	r := rand.New(rand.NewSource(1))
	m := holding(map[uint16][]byte{0x0100: {0x3F}})
	c := core.New(api.Regs{A: 0x11, B: 0x22, S: 0x0004, PC: 0x0100})
	play(t, c, api.RowInst, m, r)
	// PC's bytes go to 0003 and 0002, U's to 0001 and 0000, Y's to FFFF and FFFE, X's to FFFD and FFFC, DP to FFFB, B to FFFA.
	if now := c.Now(); now.PC != 0x2200 || now.S != 0xFFF8 {
		t.Errorf("%+v", now)
	}
}
