package alu_test

import (
	"math"
	"math/rand"
	"testing"

	"spinet/adder"
	"spinet/alu"
	"spinet/api"
	"spinet/count"
	"spinet/logic"
	"spinet/shift"
	"spinet/taker"
	"spinet/wide"
)

// strange are numbers of no operation.
var strange = []int{math.MinInt, math.MinInt + 3, -300, -3, -1, 52, 53, 100, 255, 256, 259, 1 << 32, 1<<32 + 3, math.MaxInt}

// operations: all that are listed, and what isn't.
func operations() []int {
	out := strange
	for op := range 52 {
		out = append(out, op)
	}
	return out
}

// eights: what the document says of Eight, by the operation; those that aren't written have the accumulator again.
func eights() map[int]func(a, b, cc byte) (byte, byte, bool) {
	type two = func(a, b, cc byte) (byte, byte)
	out := map[int]func(a, b, cc byte) (byte, byte, bool){
		api.OpLd:  func(_, b, cc byte) (byte, byte, bool) { return b, logic.Tst(b, cc), true },
		api.OpBit: func(a, b, cc byte) (byte, byte, bool) { return a, logic.Bit(a, b, cc), false },
		api.OpCmp: func(a, b, cc byte) (byte, byte, bool) { return a, taker.Cmp(a, b, cc), false },
	}
	for op, f := range map[int]two{
		api.OpAdc: adder.Adc, api.OpAdd: adder.Add, api.OpAnd: logic.And, api.OpEor: logic.Eor,
		api.OpOr: logic.Or, api.OpSbc: taker.Sbc, api.OpSub: taker.Sub,
	} {
		out[op] = func(a, b, cc byte) (byte, byte, bool) {
			r, then := f(a, b, cc)
			return r, then, true
		}
	}
	return out
}

func TestP24_1Eight(t *testing.T) {
	listed := eights()
	for _, op := range operations() {
		f := listed[op]
		for a := range 256 {
			for b := range 256 {
				for _, cc := range []byte{0, 1, 0x2E, 0xD1, 255} {
					r, then, written := byte(a), cc, false
					if f != nil {
						r, then, written = f(byte(a), byte(b), cc)
					}
					gotR, gotThen, gotWritten := alu.Eight(op, byte(a), byte(b), cc)
					if gotR != r || gotThen != then || gotWritten != written {
						t.Fatalf("Eight(%d, %d, %d, %d): %d, %d, %v, not %d, %d, %v", op, a, b, cc, gotR, gotThen, gotWritten, r, then, written)
					}
				}
			}
		}
	}
}

func TestP24_1EightSome(t *testing.T) {
	cases := []struct {
		op          int
		a, b, cc    byte
		r, then     byte
		itIsWritten bool
	}{
		{api.OpCmp, 1, 1, 0, 1, api.Z, false},
		{api.OpCmp, 0, 1, api.H | api.Z, 0, api.H | api.N | api.C, false},
		{api.OpSub, 0, 1, 0, 255, api.N | api.C, true},
		{api.OpSub, 5, 2, api.C, 3, 0, true},
		{api.OpSbc, 5, 2, api.C, 2, 0, true},
		{api.OpAdd, 127, 1, 0, 128, api.H | api.N | api.V, true},
		{api.OpAdd, 5, 2, api.C, 7, 0, true},
		{api.OpAdc, 5, 2, api.C, 8, 0, true},
		{api.OpAnd, 0x3C, 0x0F, api.V | api.C, 0x0C, api.C, true},
		{api.OpOr, 0x3C, 0x0F, api.V | api.C, 0x3F, api.C, true},
		{api.OpEor, 0x3C, 0x0F, api.V | api.C, 0x33, api.C, true},
		{api.OpBit, 0x3C, 0x43, api.V | api.C, 0x3C, api.Z | api.C, false},
		{api.OpLd, 1, 0x80, api.V | api.C | api.Z, 0x80, api.N | api.C, true},
		{api.OpLd, 1, 0, api.V | api.E, 0, api.Z | api.E, true},
		// These change a byte, or a word, or store one: none of them is of this kind.
		{api.OpSt, 1, 0x80, api.V, 1, api.V, false},
		{api.OpNeg, 1, 0x80, api.V, 1, api.V, false},
		{api.OpTst, 0, 0x80, api.V, 0, api.V, false},
		{api.OpAddw, 1, 0x80, api.V, 1, api.V, false},
		{api.OpNone, 1, 0x80, 255, 1, 255, false},
	}
	for _, c := range cases {
		if r, then, written := alu.Eight(c.op, c.a, c.b, c.cc); r != c.r || then != c.then || written != c.itIsWritten {
			t.Errorf("Eight(%d, %d, %d, %d): %d, %d, %v", c.op, c.a, c.b, c.cc, r, then, written)
		}
	}
}

// changes: what the document says of Change, by the operation, of those that are written.
func changes() map[int]func(a, cc byte) (byte, byte) {
	return map[int]func(a, cc byte) (byte, byte){
		api.OpNeg: taker.Neg, api.OpCom: logic.Com, api.OpLsr: shift.Lsr, api.OpRor: shift.Ror, api.OpAsr: shift.Asr,
		api.OpAsl: shift.Asl, api.OpRol: shift.Rol, api.OpInc: count.Inc, api.OpDec: count.Dec,
		api.OpClr: func(_, cc byte) (byte, byte) { return logic.Clr(cc) },
	}
}

func TestP24_2Change(t *testing.T) {
	listed := changes()
	for _, op := range operations() {
		f := listed[op]
		for a := range 256 {
			for cc := range 256 {
				r, then, written := byte(a), byte(cc), false
				if op == api.OpTst {
					then = logic.Tst(byte(a), byte(cc))
				}
				if f != nil {
					r, then = f(byte(a), byte(cc))
					written = true
				}
				gotR, gotThen, gotWritten := alu.Change(op, byte(a), byte(cc))
				if gotR != r || gotThen != then || gotWritten != written {
					t.Fatalf("Change(%d, %d, %d): %d, %d, %v, not %d, %d, %v", op, a, cc, gotR, gotThen, gotWritten, r, then, written)
				}
			}
		}
	}
}

func TestP24_2ChangeSome(t *testing.T) {
	cases := []struct {
		op          int
		a, cc       byte
		r, then     byte
		itIsWritten bool
	}{
		{api.OpNeg, 1, 0, 255, api.N | api.C, true},
		{api.OpCom, 0, 0, 255, api.N | api.C, true},
		{api.OpLsr, 0x81, api.C, 0x40, api.C, true},
		{api.OpRor, 0x80, api.C, 0xC0, api.N, true},
		{api.OpAsr, 0x80, api.C, 0xC0, api.N, true},
		{api.OpAsl, 0x40, api.C, 0x80, api.N | api.V, true},
		{api.OpRol, 0x00, api.C, 0x01, 0, true},
		{api.OpDec, 0x80, api.C, 0x7F, api.V | api.C, true},
		{api.OpInc, 0xFF, api.C, 0x00, api.Z | api.C, true},
		{api.OpTst, 0x80, api.V | api.Z | api.C, 0x80, api.N | api.C, false},
		{api.OpTst, 0, api.V, 0, api.Z, false},
		{api.OpClr, 0x80, 255, 0, 255 &^ (api.N | api.V | api.C), true},
		{api.OpSub, 0x80, 255, 0x80, 255, false},
		{api.OpLd, 0, 0, 0, 0, false},
		{api.OpJmp, 0, 0, 0, 0, false},
		{api.OpNone, 0, 0, 0, 0, false},
	}
	for _, c := range cases {
		if r, then, written := alu.Change(c.op, c.a, c.cc); r != c.r || then != c.then || written != c.itIsWritten {
			t.Errorf("Change(%d, %d, %d): %d, %d, %v", c.op, c.a, c.cc, r, then, written)
		}
	}
}

// words: numbers at the edges, and many others.
func words() []uint16 {
	out := []uint16{0, 1, 2, 127, 128, 255, 256, 257, 32766, 32767, 32768, 32769, 65279, 65280, 65534, 65535}
	r := rand.New(rand.NewSource(24))
	for range 60 {
		out = append(out, uint16(r.Intn(65536)))
	}
	return out
}

func TestP24_3Word(t *testing.T) {
	for _, op := range operations() {
		for _, a := range words() {
			for _, b := range words() {
				for _, cc := range []byte{0, 1, 0x2E, 0xD1, 255} {
					r, then, written := a, cc, false
					switch op {
					case api.OpAddw:
						r, then = wide.Add(a, b, cc)
						written = true
					case api.OpSubw:
						r, then = wide.Sub(a, b, cc)
						written = true
					case api.OpLdw:
						r, then, written = b, wide.Tst(b, cc), true
					case api.OpCmpw:
						then = wide.Cmp(a, b, cc)
					}
					gotR, gotThen, gotWritten := alu.Word(op, a, b, cc)
					if gotR != r || gotThen != then || gotWritten != written {
						t.Fatalf("Word(%d, %d, %d, %d): %d, %d, %v, not %d, %d, %v", op, a, b, cc, gotR, gotThen, gotWritten, r, then, written)
					}
				}
			}
		}
	}
}

func TestP24_3WordSome(t *testing.T) {
	cases := []struct {
		op          int
		a, b        uint16
		cc          byte
		r           uint16
		then        byte
		itIsWritten bool
	}{
		{api.OpAddw, 32767, 1, 0, 32768, api.N | api.V, true},
		{api.OpAddw, 65535, 1, api.H, 0, api.H | api.Z | api.C, true},
		{api.OpSubw, 0, 1, 0, 65535, api.N | api.C, true},
		{api.OpSubw, 5, 2, api.C, 3, 0, true},
		{api.OpCmpw, 5, 5, api.N, 5, api.Z, false},
		{api.OpLdw, 5, 0x8000, api.V | api.C, 0x8000, api.N | api.C, true},
		{api.OpLdw, 5, 0, api.V, 0, api.Z, true},
		{api.OpStw, 5, 0, api.V, 5, api.V, false},
		{api.OpLea, 0, 0, api.V, 0, api.V, false},
		{api.OpAdd, 5, 6, 255, 5, 255, false},
		{api.OpNone, 5, 6, 255, 5, 255, false},
	}
	for _, c := range cases {
		if r, then, written := alu.Word(c.op, c.a, c.b, c.cc); r != c.r || then != c.then || written != c.itIsWritten {
			t.Errorf("Word(%d, %d, %d, %d): %d, %d, %v", c.op, c.a, c.b, c.cc, r, then, written)
		}
	}
}

// Nothing stays from one call to the next (P2 of DOC.md).
func TestP2SameAgain(t *testing.T) {
	for range 3 {
		if r, cc, written := alu.Eight(api.OpAdd, 1, 2, 0); r != 3 || cc != 0 || !written {
			t.Errorf("Eight: %d, %d, %v", r, cc, written)
		}
		if r, cc, written := alu.Eight(api.OpNone, 1, 2, 5); r != 1 || cc != 5 || written {
			t.Errorf("Eight: %d, %d, %v", r, cc, written)
		}
		if r, cc, written := alu.Change(api.OpTst, 1, 5); r != 1 || cc != 1 || written {
			t.Errorf("Change: %d, %d, %v", r, cc, written)
		}
		if r, cc, written := alu.Word(api.OpLdw, 1, 2, 5); r != 2 || cc != 1 || !written {
			t.Errorf("Word: %d, %d, %v", r, cc, written)
		}
	}
}
