package cpu_test

import (
	"slices"
	"strings"
	"testing"

	"spinet/api"
	"spinet/arbiter"
	"spinet/cpu"
	"spinet/edge"
	"spinet/ram"
)

// trace is cycles, written by hand: the kind of the processor, its state ahead, bytes at addresses, the script, what is told of its cycles, and the state then.
type trace struct {
	name   string
	kind   int
	ahead  cpu.State
	data   map[uint16][]byte
	script string
	told   string
	then   cpu.State
}

// check: does it go as it is written?
func (x trace) check(t *testing.T) *ram.Ram {
	t.Helper()
	m := holding(t, x.data)
	c := restored(t, x.kind, x.ahead)
	got, want := play(t, c, m, x.script), lines(x.told)
	if !slices.Equal(got, want) {
		t.Errorf("%s:\n%s\nnot\n%s", x.name, strings.Join(got, "\n"), strings.Join(want, "\n"))
	}
	if !equal(c.State(), x.then) {
		t.Errorf("%s:\n%+v, not\n%+v", x.name, c.State(), x.then)
	}
	return m
}

// regs are the registers from which the traces go.
func regs(cc byte, pc uint16) api.Regs {
	return api.Regs{A: 0xA1, B: 0xB2, DP: 0x0D, CC: cc, X: 0x1357, Y: 0x2468, U: 0x7531, S: 0x1000, PC: pc}
}

// with: registers, of which something is changed.
func with(r api.Regs, change func(*api.Regs)) api.Regs {
	change(&r)
	return r
}

// vectors are where interrupts go, as bytes at addresses.
func vectors() map[uint16][]byte {
	return map[uint16][]byte{0xFFF2: {0x30, 0x03, 0x20, 0x02, 0x60, 0x06, 0x70, 0x07, 0x10, 0x01, 0x80, 0x08, 0x12, 0x34}}
}

// and: the vectors, and a program at 0200.
func and(program ...byte) map[uint16][]byte {
	m := vectors()
	m[0x0200] = program
	return m
}

func TestP34_1Instructions(t *testing.T) {
	trace{
		name: "NOP of a new processor", data: map[uint16][]byte{0: {0x12}}, script: ".*2",
		told: `
			0000 12 R ---V- M
			0001 00 R --LV- M`,
		then: cpu.State{Regs: api.Regs{PC: 1}},
	}.check(t)
	m := trace{
		name: "LDA of 5, STA at 0100", kind: 1, data: map[uint16][]byte{0: {0x86, 0x05, 0xB7, 0x01, 0x00}, 0xFFFF: {0xEE}}, script: ".*7",
		told: `
			0000 86 R ---V- M
			0001 05 R --LV- M
			0002 B7 R ---V- M
			0003 01 R ---V- M
			0004 00 R ----- M
			FFFF EE R ---V- M
			0100 05 W --LV- M`,
		then: cpu.State{Regs: api.Regs{A: 5, PC: 5}},
	}.check(t)
	if m.Read(0x0100) != 5 {
		t.Error("nothing was written")
	}
	m = trace{
		name: "INC at 0D10: BUSY", ahead: cpu.State{Regs: regs(0, 0x0200)}, data: map[uint16][]byte{0x0200: {0x0C, 0x10}, 0x0D10: {0x7F}, 0xFFFF: {0xEE}}, script: ".*6",
		told: `
			0200 0C R ---V- M
			0201 10 R ----- M
			FFFF EE R ---V- M
			0D10 7F R ----B M
			FFFF EE R ---VB M
			0D10 80 W --LV- M`,
		then: cpu.State{Regs: regs(api.N|api.V, 0x0202)},
	}.check(t)
	if m.Read(0x0D10) != 0x80 {
		t.Error("nothing was written")
	}
}

func TestP34_1Reset(t *testing.T) {
	trace{
		name: "RESET at a boundary", ahead: cpu.State{Regs: regs(api.E|api.C, 0x0200)}, data: and(0x12), script: "R .*4",
		told: `
			FFFE 12 R ---V- M
			FFFE 12 R -S-VB M
			FFFF 34 R -S--- M
			FFFF 34 R --LV- M
			1234 00 R ---V- M`,
		then: cpu.State{Mode: api.InRow, Log: []byte{0}, Regs: with(regs(api.E|api.C|api.F|api.I, 0x1234), func(r *api.Regs) { r.DP = 0 })},
	}.check(t)
	trace{
		name: "RESET for long, whatever else is active", kind: 1, ahead: cpu.State{Regs: regs(0, 0x0200), Latch: edge.Latch{Armed: true, Set: true}, Arb: arbiter.State{Phase: arbiter.Gone, Count: 3}}, data: and(0x12), script: "RNFIHQ R RQ RH*2",
		told: `
			FFFE 12 R ---V- M
			FFFE 12 R ---V- M
			FFFE 12 R ---V- M
			FFFE 12 R ---V- M
			FFFE 12 R ---V- M`,
		then: cpu.State{Mode: api.InReset, Regs: regs(0, 0x0200)},
	}.check(t)
	trace{
		name: "behind RESET neither HALT nor an interrupt counts", ahead: cpu.State{Mode: api.InReset, Regs: regs(0, 0x0200)}, data: and(0x12), script: "NFIH FIH FIH H",
		told: `
			FFFE 12 R -S-VB M
			FFFF 34 R -S--- M
			FFFF 34 R --LV- M
			FFFF 00 R ASL-- -`,
		then: cpu.State{Regs: with(regs(api.F|api.I, 0x1234), func(r *api.Regs) { r.DP = 0 })},
	}.check(t)
	trace{
		name: "RESET within the row behind RESET", ahead: cpu.State{Mode: api.InReset, Regs: regs(0, 0x0200)}, data: and(0x12), script: ".*2 R .",
		told: `
			FFFE 12 R -S-VB M
			FFFF 34 R -S--- M
			FFFE 12 R ---V- M
			FFFE 12 R -S-VB M`,
		then: cpu.State{Mode: api.InRow, Row: api.RowReset, Log: []byte{0x12}, Regs: regs(0, 0x0200)},
	}.check(t)
}

// A row that RESET cuts off has changed no register; what it wrote stays.
func TestP34_1ResetCuts(t *testing.T) {
	m := trace{
		name: "STD ,X++", ahead: cpu.State{Regs: regs(0, 0x0200)}, data: and(0xED, 0x81), script: ".*7 R",
		told: `
			0200 ED R ---V- M
			0201 81 R ----- M
			FFFF 34 R ----- M
			FFFF 34 R ----- M
			FFFF 34 R ----- M
			FFFF 34 R ---V- M
			1357 A1 W ---VB M
			FFFE 12 R ---V- M`,
		then: cpu.State{Mode: api.InReset, Regs: regs(0, 0x0200)},
	}.check(t)
	if m.Read(0x1357) != 0xA1 || m.Read(0x1358) != 0 {
		t.Errorf("%02X %02X", m.Read(0x1357), m.Read(0x1358))
	}
	m = trace{
		name: "IRQ", ahead: cpu.State{Regs: regs(0, 0x0200)}, data: and(0x12), script: "I*5 R",
		told: `
			0200 12 R ---V- M
			0200 12 R ----- M
			FFFF 34 R ---V- M
			0FFF 00 W ---V- M
			0FFE 02 W ---V- M
			FFFE 12 R ---V- M`,
		then: cpu.State{Mode: api.InReset, Regs: regs(0, 0x0200)},
	}.check(t)
	if m.Read(0x0FFE) != 2 {
		t.Error("what was pushed is gone")
	}
	for _, mode := range []int{api.InSync, api.InCwai} {
		trace{
			name: "a wait", ahead: cpu.State{Mode: mode, Regs: regs(0, 0x0200)}, data: and(), script: "RI",
			told: "FFFE 12 R ---V- M",
			then: cpu.State{Mode: api.InReset, Regs: regs(0, 0x0200)},
		}.check(t)
	}
}

func TestP34_1Irq(t *testing.T) {
	trace{
		name: "I off", ahead: cpu.State{Regs: regs(api.C, 0x0200)}, data: and(0x12), script: "I*19",
		told: `
			0200 12 R ---V- M
			0200 12 R ----- M
			FFFF 34 R ---V- M
			0FFF 00 W ---V- M
			0FFE 02 W ---V- M
			0FFD 31 W ---V- M
			0FFC 75 W ---V- M
			0FFB 68 W ---V- M
			0FFA 24 W ---V- M
			0FF9 57 W ---V- M
			0FF8 13 W ---V- M
			0FF7 0D W ---V- M
			0FF6 B2 W ---V- M
			0FF5 A1 W ---V- M
			0FF4 81 W ----- M
			FFFF 34 R ---V- M
			FFF8 70 R -S-VB M
			FFF9 07 R -S--- M
			FFFF 34 R --LV- M`,
		then: cpu.State{Regs: with(regs(api.E|api.I|api.C, 0x7007), func(r *api.Regs) { r.S = 0x0FF4 })},
	}.check(t)
	trace{
		name: "I on", ahead: cpu.State{Regs: regs(api.I, 0x0200)}, data: and(0x12), script: "I*3",
		told: `
			0200 12 R ---V- M
			0201 00 R --LV- M
			0201 00 R ---V- M`,
		then: cpu.State{Mode: api.InRow, Log: []byte{0}, Regs: regs(api.I, 0x0201)},
	}.check(t)
	trace{
		name: "only while an instruction goes on", ahead: cpu.State{Regs: regs(0, 0x0200)}, data: and(0x12, 0x12), script: ". FI .",
		told: `
			0200 12 R ---V- M
			0201 12 R --LV- M
			0201 12 R ---V- M`,
		then: cpu.State{Mode: api.InRow, Log: []byte{0x12}, Regs: regs(0, 0x0201)},
	}.check(t)
	trace{
		name: "behind the codes that an instruction leaves", ahead: cpu.State{Regs: regs(api.I, 0x0200)}, data: and(0x1C, 0xEF, 0x12), script: "I*4",
		told: `
			0200 1C R ---V- M
			0201 EF R ----- M
			FFFF 34 R --LV- M
			0202 12 R ---V- M`,
		then: cpu.State{Mode: api.InRow, Row: api.RowIrq, Log: []byte{0x12}, Regs: regs(0, 0x0202)},
	}.check(t)
}

func TestP34_1Firq(t *testing.T) {
	trace{
		name: "F off, ahead of IRQ", ahead: cpu.State{Regs: regs(api.E|api.C, 0x0200)}, data: and(0x12), script: "FI*10",
		told: `
			0200 12 R ---V- M
			0200 12 R ----- M
			FFFF 34 R ---V- M
			0FFF 00 W ---V- M
			0FFE 02 W ---V- M
			0FFD 01 W ----- M
			FFFF 34 R ---V- M
			FFF6 60 R -S-VB M
			FFF7 06 R -S--- M
			FFFF 34 R --LV- M`,
		then: cpu.State{Regs: with(regs(api.F|api.I|api.C, 0x6006), func(r *api.Regs) { r.S = 0x0FFD })},
	}.check(t)
	trace{
		name: "F on, I off: IRQ", ahead: cpu.State{Regs: regs(api.F, 0x0200)}, data: and(0x12), script: "FI",
		told: "0200 12 R ---V- M",
		then: cpu.State{Mode: api.InRow, Row: api.RowIrq, Log: []byte{0x12}, Regs: regs(api.F, 0x0200)},
	}.check(t)
}

// NMI's edges count behind what loads S alone; one that is kept begins its row at the next boundary, once.
func TestP34_1Nmi(t *testing.T) {
	trace{
		name: "no edge counts", ahead: cpu.State{Regs: regs(0, 0x0200)}, data: and(0x12, 0x12), script: ". N . N*2",
		told: `
			0200 12 R ---V- M
			0201 12 R --LV- M
			0201 12 R ---V- M
			0202 00 R --LV- M
			0202 00 R ---V- M`,
		then: cpu.State{Mode: api.InRow, Log: []byte{0}, Regs: regs(0, 0x0202), Latch: edge.Latch{Level: true}},
	}.check(t)
	arms := cpu.State{Regs: with(regs(0, 0x0204), func(r *api.Regs) { r.S = 0x1234 })}
	arms.Latch = edge.Latch{Level: true, Armed: true}
	trace{
		name: "LDS arms behind its last cycle", ahead: cpu.State{Regs: regs(0, 0x0200)}, data: and(0x10, 0xCE, 0x12, 0x34), script: ".*3 N",
		told: `
			0200 10 R ---V- M
			0201 CE R ---V- M
			0202 12 R ---V- M
			0203 34 R --LV- M`,
		then: arms,
	}.check(t)
	trace{
		name: "an edge that came with it doesn't count", ahead: arms, data: map[uint16][]byte{0x0204: {0x12}}, script: "N*3",
		told: `
			0204 12 R ---V- M
			0205 00 R --LV- M
			0205 00 R ---V- M`,
		then: cpu.State{Mode: api.InRow, Log: []byte{0}, Regs: with(regs(0, 0x0205), func(r *api.Regs) { r.S = 0x1234 }), Latch: arms.Latch},
	}.check(t)
	began := cpu.State{Mode: api.InRow, Row: api.RowNmi, Log: []byte{0x12}, Regs: regs(api.F|api.I, 0x0201), Latch: edge.Latch{Armed: true}}
	trace{
		name: "an edge within an instruction begins its row behind it, whatever the codes say", ahead: cpu.State{Regs: regs(api.F|api.I, 0x0200), Latch: edge.Latch{Armed: true}}, data: and(0x12, 0x12), script: ". N .",
		told: `
			0200 12 R ---V- M
			0201 12 R --LV- M
			0201 12 R ---V- M`,
		then: began,
	}.check(t)
	trace{
		name: "a level that stays is no edge", ahead: cpu.State{Regs: regs(0, 0x0200), Latch: edge.Latch{Level: true, Armed: true}}, data: and(0x12, 0x12), script: "N*3 . N*2",
		told: `
			0200 12 R ---V- M
			0201 12 R --LV- M
			0201 12 R ---V- M
			0202 00 R --LV- M
			0202 00 R ---V- M
			0202 00 R ----- M`,
		then: cpu.State{Mode: api.InRow, Row: api.RowNmi, Log: []byte{0, 0}, Regs: regs(0, 0x0202), Latch: edge.Latch{Level: true, Armed: true}},
	}.check(t)
	trace{
		name: "another edge within its row begins it again, and a level that stays doesn't", ahead: began, data: and(0x12, 0x12), script: "N .*16 N*4",
		told: `
			0201 12 R ----- M
			FFFF 34 R ---V- M
			0FFF 01 W ---V- M
			0FFE 02 W ---V- M
			0FFD 31 W ---V- M
			0FFC 75 W ---V- M
			0FFB 68 W ---V- M
			0FFA 24 W ---V- M
			0FF9 57 W ---V- M
			0FF8 13 W ---V- M
			0FF7 0D W ---V- M
			0FF6 B2 W ---V- M
			0FF5 A1 W ---V- M
			0FF4 D0 W ----- M
			FFFF 34 R ---V- M
			FFFC 80 R -S-VB M
			FFFD 08 R -S--- M
			FFFF 34 R --LV- M
			8008 00 R ---V- M
			8008 00 R ----- M
			FFFF 34 R ---V- M`,
		then: cpu.State{Mode: api.InRow, Row: api.RowNmi, Log: []byte{0, 0, 0x34}, Regs: with(regs(api.E|api.F|api.I, 0x8008), func(r *api.Regs) { r.S = 0x0FF4 }), Latch: edge.Latch{Level: true, Armed: true}},
	}.check(t)
	trace{
		name: "RESET forgets the edge, and that edges count", ahead: cpu.State{Regs: regs(0, 0x0200), Latch: edge.Latch{Armed: true, Set: true}}, data: and(0x12), script: "RN .*4",
		told: `
			FFFE 12 R ---V- M
			FFFE 12 R -S-VB M
			FFFF 34 R -S--- M
			FFFF 34 R --LV- M
			1234 00 R ---V- M`,
		then: cpu.State{Mode: api.InRow, Log: []byte{0}, Regs: with(regs(api.F|api.I, 0x1234), func(r *api.Regs) { r.DP = 0 })},
	}.check(t)
}

func TestP34_1Sync(t *testing.T) {
	waits := cpu.State{Mode: api.InSync, Regs: regs(api.F|api.I, 0x0201)}
	trace{
		name: "SYNC waits", ahead: cpu.State{Regs: regs(api.F|api.I, 0x0200)}, data: and(0x13, 0x12), script: ".*4 H",
		told: `
			0200 13 R ---V- M
			0201 12 R ----- M
			FFFF 34 R ----- M
			FFFF 00 R A---- M
			FFFF 00 R A---- M`,
		then: waits,
	}.check(t)
	for _, pin := range []string{"F", "I", "FI", "IH"} {
		trace{
			name: "it goes on behind SYNC, with F and I on", ahead: waits, data: and(0x13, 0x12), script: pin + " I*2",
			told: `
				FFFF 34 R --LV- M
				0201 12 R ---V- M
				0202 00 R --LV- M`,
			then: cpu.State{Regs: regs(api.F|api.I, 0x0202)},
		}.check(t)
	}
	trace{
		name: "an interrupt's row begins at the boundary, by the pins there", ahead: cpu.State{Mode: api.InSync, Regs: regs(0, 0x0201)}, data: and(0x13, 0x12), script: "I F",
		told: `
			FFFF 34 R --LV- M
			0201 12 R ---V- M`,
		then: cpu.State{Mode: api.InRow, Row: api.RowFirq, Log: []byte{0x12}, Regs: regs(0, 0x0201)},
	}.check(t)
	armed := waits
	armed.Latch = edge.Latch{Armed: true}
	trace{
		name: "an edge ends the wait, and is still kept", ahead: armed, data: and(0x13, 0x12), script: "N",
		told: "FFFF 34 R --LV- M",
		then: cpu.State{Regs: regs(api.F|api.I, 0x0201), Latch: edge.Latch{Level: true, Armed: true, Set: true}},
	}.check(t)
	trace{
		name: "an edge that doesn't count doesn't end it", ahead: waits, data: and(0x13, 0x12), script: "N .",
		told: `
			FFFF 00 R A---- M
			FFFF 00 R A---- M`,
		then: waits,
	}.check(t)
	trace{
		name: "an edge that came in a cycle of somebody else's ends it", ahead: armed, data: and(0x13, 0x12), script: "NQ Q .*2",
		told: `
			FFFF 00 R AS--- -
			FFFF 00 R AS--- -
			FFFF 34 R --LV- M
			0201 12 R ---V- M`,
		then: cpu.State{Mode: api.InRow, Row: api.RowNmi, Log: []byte{0x12}, Regs: regs(api.F|api.I, 0x0201), Latch: edge.Latch{Armed: true}},
	}.check(t)
}

func TestP34_1Cwai(t *testing.T) {
	pushed := func(r *api.Regs) { r.S = 0x0FF4 }
	waits := cpu.State{Mode: api.InCwai, Regs: with(regs(api.E|api.C, 0x0202), pushed)}
	trace{
		name: "CWAI of FF waits", ahead: cpu.State{Regs: regs(api.C, 0x0200)}, data: and(0x3C, 0xFF, 0x12), script: ".*17 H",
		told: `
			0200 3C R ---V- M
			0201 FF R ---V- M
			0202 12 R ----- M
			FFFF 34 R ---V- M
			0FFF 02 W ---V- M
			0FFE 02 W ---V- M
			0FFD 31 W ---V- M
			0FFC 75 W ---V- M
			0FFB 68 W ---V- M
			0FFA 24 W ---V- M
			0FF9 57 W ---V- M
			0FF8 13 W ---V- M
			0FF7 0D W ---V- M
			0FF6 B2 W ---V- M
			0FF5 A1 W ---V- M
			0FF4 81 W ----- M
			FFFF 34 R ----- M
			FFFF 34 R ----- M`,
		then: waits,
	}.check(t)
	trace{
		name: "FIRQ ends the wait, and nothing is pushed again", ahead: waits, data: and(0x3C, 0xFF, 0x12), script: "FI .*4",
		told: `
			FFFF 34 R ---V- M
			FFF6 60 R -S-VB M
			FFF7 06 R -S--- M
			FFFF 34 R --LV- M
			6006 00 R ---V- M`,
		then: cpu.State{Mode: api.InRow, Log: []byte{0}, Regs: with(regs(api.E|api.F|api.I|api.C, 0x6006), pushed)},
	}.check(t)
	trace{
		name: "IRQ ends it", ahead: waits, data: and(), script: "I H*3",
		told: `
			FFFF 34 R ---V- M
			FFF8 70 R -S-VB M
			FFF9 07 R -S--- M
			FFFF 34 R --LV- M`,
		then: cpu.State{Regs: with(regs(api.E|api.I|api.C, 0x7007), pushed)},
	}.check(t)
	off := cpu.State{Mode: api.InCwai, Regs: regs(api.E|api.F|api.I, 0x0202)}
	trace{
		name: "F and I are on: it waits", ahead: off, data: and(), script: "FI*2 F I NH",
		told: strings.Repeat("FFFF 34 R ----- M\n", 5),
		then: cpu.State{Mode: api.InCwai, Regs: off.Regs, Latch: edge.Latch{Level: true}},
	}.check(t)
	off.Latch.Armed = true
	trace{
		name: "an edge is taken at once", ahead: off, data: and(), script: "NFI",
		told: "FFFF 34 R ---V- M",
		then: cpu.State{Mode: api.InRow, Row: api.RowNmiW, Regs: off.Regs, Latch: edge.Latch{Level: true, Armed: true}},
	}.check(t)
	trace{
		name: "so that another one, ahead of its row's first cycle, is kept", ahead: off, data: and(), script: "N Q NQ .*4",
		told: `
			FFFF 34 R ---V- M
			FFFF 00 R AS--- -
			FFFF 00 R AS--- -
			FFFC 80 R -S-VB M
			FFFD 08 R -S--- M
			FFFF 34 R --LV- M
			8008 00 R ---V- M`,
		then: cpu.State{Mode: api.InRow, Row: api.RowNmi, Log: []byte{0}, Regs: regs(api.E|api.F|api.I, 0x8008), Latch: edge.Latch{Armed: true}},
	}.check(t)
}

func TestP34_1Halt(t *testing.T) {
	trace{
		name: "HALT at a boundary", ahead: cpu.State{Regs: regs(0, 0x0200)}, data: and(0x12, 0x12), script: "H*2 FIH .*2 H IH .",
		told: `
			FFFF 00 R ASL-- -
			FFFF 00 R ASL-- -
			FFFF 00 R ASL-- -
			0200 12 R ---V- M
			0201 12 R --LV- M
			FFFF 00 R ASL-- -
			FFFF 00 R ASL-- -
			0201 12 R ---V- M`,
		then: cpu.State{Mode: api.InRow, Log: []byte{0x12}, Regs: regs(0, 0x0201)},
	}.check(t)
	trace{
		name: "an edge that comes in a halted cycle counts", ahead: cpu.State{Regs: regs(0, 0x0200), Latch: edge.Latch{Armed: true}}, data: and(0x12), script: "NH H .",
		told: `
			FFFF 00 R ASL-- -
			FFFF 00 R ASL-- -
			0200 12 R ---V- M`,
		then: cpu.State{Mode: api.InRow, Row: api.RowNmi, Log: []byte{0x12}, Regs: regs(0, 0x0200), Latch: edge.Latch{Armed: true}},
	}.check(t)
}

func TestP34_1Bus(t *testing.T) {
	trace{
		name: "TSC", ahead: cpu.State{Regs: regs(0, 0x0200)}, data: and(0x12, 0x12), script: "Q HQ . FIQ*2 .",
		told: `
			FFFF 00 R AS--- -
			FFFF 00 R AS--- -
			0200 12 R ---V- M
			FFFF 00 R AS--- -
			FFFF 00 R AS--- -
			0201 12 R --LV- M`,
		then: cpu.State{Regs: regs(0, 0x0201)},
	}.check(t)
	trace{
		name: "DMA/BREQ", kind: 1, ahead: cpu.State{Regs: regs(0, 0x0200)}, data: and(0x12, 0x12), script: "Q*2 .*2 . Q H . Q*2 HQ",
		told: `
			FFFF 00 R ----- -
			FFFF 00 R AS--- -
			FFFF 00 R ----- -
			0200 12 R ---V- M
			0201 12 R --LV- M
			FFFF 00 R ----- -
			FFFF 00 R ----- -
			0201 12 R ---V- M
			FFFF 00 R ----- -
			FFFF 00 R AS--- -
			FFFF 00 R AS--- -`,
		then: cpu.State{Mode: api.InRow, Log: []byte{0x12}, Regs: regs(0, 0x0201), Arb: arbiter.State{Phase: arbiter.Gone, Count: 2}},
	}.check(t)
	trace{
		name: "DMA/BREQ for good", kind: 1, ahead: cpu.State{Regs: regs(0, 0x0200)}, data: and(0x12, 0x12), script: "Q*37",
		told: strings.Join([]string{
			"FFFF 00 R ----- -", strings.Repeat("FFFF 00 R AS--- -\n", 15), "FFFF 00 R ----- -", "0200 12 R ---V- M",
			"FFFF 00 R ----- -", strings.Repeat("FFFF 00 R AS--- -\n", 15), "FFFF 00 R ----- -", "0201 12 R --LV- M",
			"FFFF 00 R ----- -",
		}, "\n"),
		then: cpu.State{Regs: regs(0, 0x0201), Arb: arbiter.State{Phase: arbiter.Gone}},
	}.check(t)
}

// What can't be written is told as if it were, and the instruction goes on.
func TestP34_1Rom(t *testing.T) {
	m, _ := ram.New([]byte{0x97, 0x80, 0x12}, 0x80)
	c := restored(t, 0, cpu.State{Regs: api.Regs{A: 7}})
	want := lines(`
		0000 97 R ---V- M
		0001 80 R ----- M
		FFFF 00 R ---V- M
		0080 07 W --LV- M
		0002 12 R ---V- M`)
	if got := play(t, c, m, ".*5"); !slices.Equal(got, want) {
		t.Error(got)
	}
	if m.Read(0x80) != 0 {
		t.Error("it was written nevertheless")
	}
}
