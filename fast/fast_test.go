package fast_test

import (
	"maps"
	"math"
	"math/rand"
	"slices"
	"testing"

	"spinet/api"
	"spinet/core"
	"spinet/fast"
	"spinet/inst"
	"spinet/page"
)

// memory is 65536 bytes: those that all share, and what was written since, which is nothing from rom on.
type memory struct {
	base    *[65536]byte
	changed map[uint16]byte
	rom     int
}

func (m memory) Read(at uint16) byte {
	if b, ok := m.changed[at]; ok {
		return b
	}
	return m.base[at]
}

func (m memory) Write(at uint16, b byte) bool {
	if int(at) >= m.rom {
		return false
	}
	m.changed[at] = b
	return true
}

// copy: memory that goes its own way.
func (m memory) copy() memory { return memory{m.base, maps.Clone(m.changed), m.rom} }

// part: so many bytes from an address on.
func (m memory) part(at uint16, n int) []byte {
	var out []byte
	for i := range n {
		out = append(out, m.Read(at+uint16(i)))
	}
	return out
}

// same: have two the same bytes?
func same(a, b memory) bool {
	for at := range a.changed {
		if a.Read(at) != b.Read(at) {
			return false
		}
	}
	for at := range b.changed {
		if a.Read(at) != b.Read(at) {
			return false
		}
	}
	return a.base == b.base
}

// over: memory with these bytes, that can be written everywhere.
func over(base *[65536]byte) memory { return memory{base, map[uint16]byte{}, 65536} }

// holding: memory of bytes 0, and some at addresses.
func holding(at map[uint16][]byte) memory {
	m := over(new([65536]byte))
	for from, l := range at {
		for i, b := range l {
			m.changed[from+uint16(i)] = b
		}
	}
	return m
}

// noise: bytes of any kind.
func noise(r *rand.Rand) *[65536]byte {
	var out [65536]byte
	r.Read(out[:])
	return &out
}

// anyRegs: any registers.
func anyRegs(r *rand.Rand) api.Regs {
	w := func() uint16 {
		// Near the ends sums wrap round, and stacks lie over the vectors.
		switch r.Intn(8) {
		case 0:
			return uint16(r.Intn(16))
		case 1:
			return 65535 - uint16(r.Intn(24))
		}
		return uint16(r.Intn(65536))
	}
	b := func() byte { return byte(r.Intn(256)) }
	return api.Regs{A: b(), B: b(), DP: b(), CC: b(), X: w(), Y: w(), U: w(), S: w(), PC: w()}
}

// played: what a row of layer 27 leaves, cycle by cycle.
func played(t *testing.T, kind int, regs api.Regs, m memory) fast.Result {
	t.Helper()
	c := core.New(regs)
	if !c.Begin(kind) {
		t.Fatalf("no row %d", kind)
	}
	var out fast.Result
	for c.Active() {
		bus, _ := c.Want()
		in := bus.Data
		if bus.Read {
			in = m.Read(bus.Addr)
		} else {
			m.Write(bus.Addr, bus.Data)
		}
		sign, _ := c.Tick(in)
		out.Cycles++
		out.End, out.Loads = sign.End, sign.Loads
	}
	out.Regs = c.Now()
	return out
}

// asked: does Step do what the row does, over memory that isn't changed here?
func asked(t *testing.T, regs api.Regs, m memory) fast.Result {
	t.Helper()
	one, two := m.copy(), m.copy()
	want := played(t, api.RowInst, regs, one)
	got := fast.Step(regs, two)
	if got != want || !same(one, two) {
		t.Fatalf("%X of %+v: %+v, not %+v; written %v, not %v", m.part(regs.PC, 5), regs, got, want, two.changed, one.changed)
	}
	return got
}

// All opcodes of all pages, over any registers and bytes.
func TestP37_1Opcodes(t *testing.T) {
	r := rand.New(rand.NewSource(1))
	ends := map[int]int{}
	for range 60 {
		base := noise(r)
		for _, ahead := range [][]byte{nil, {0x10}, {0x11}} {
			for code := range 256 {
				regs := anyRegs(r)
				m := over(base)
				for i, b := range append(slices.Clone(ahead), byte(code)) {
					m.changed[regs.PC+uint16(i)] = b
				}
				ends[asked(t, regs, m).End]++
			}
		}
	}
	if len(ends) != 3 || ends[core.Sync] == 0 || ends[core.Cwai] == 0 {
		t.Errorf("ends: %v", ends)
	}
}

// All postbytes of all opcodes that have one.
func TestP37_1Postbytes(t *testing.T) {
	r := rand.New(rand.NewSource(2))
	loads := 0
	base := noise(r)
	for p, ahead := range [][]byte{nil, {0x10}, {0x11}} {
		for code := range 256 {
			switch page.Of(p+1, byte(code)).Mode {
			case api.ModeIdx, api.ModePair, api.ModeMany:
			default:
				continue
			}
			for post := range 256 {
				for range 3 {
					regs := anyRegs(r)
					m := over(base)
					for i, b := range append(slices.Clone(ahead), byte(code), byte(post)) {
						m.changed[regs.PC+uint16(i)] = b
					}
					if asked(t, regs, m).Loads {
						loads++
					}
				}
			}
		}
	}
	if loads == 0 {
		t.Error("nothing has loaded S")
	}
}

// Conditions and flags: all codes of what looks at them.
func TestP37_1Codes(t *testing.T) {
	r := rand.New(rand.NewSource(3))
	base := noise(r)
	for _, l := range [][]byte{
		{0x20}, {0x21}, {0x22}, {0x23}, {0x24}, {0x25}, {0x26}, {0x27}, {0x28}, {0x29}, {0x2A}, {0x2B}, {0x2C}, {0x2D}, {0x2E}, {0x2F},
		{0x10, 0x21}, {0x10, 0x22}, {0x10, 0x23}, {0x10, 0x24}, {0x10, 0x25}, {0x10, 0x26}, {0x10, 0x27}, {0x10, 0x28}, {0x10, 0x29},
		{0x10, 0x2A}, {0x10, 0x2B}, {0x10, 0x2C}, {0x10, 0x2D}, {0x10, 0x2E}, {0x10, 0x2F},
		{0x19}, {0x1A}, {0x1C}, {0x1D}, {0x30, 0x84}, {0x32, 0x61}, {0x3B}, {0x3C}, {0x3D}, {0x3F}, {0x10, 0x3F}, {0x11, 0x3F}, {0x89}, {0xC2}, {0x49}, {0x56},
	} {
		for cc := range 256 {
			regs := anyRegs(r)
			regs.CC = byte(cc)
			m := over(base)
			for i, b := range l {
				m.changed[regs.PC+uint16(i)] = b
			}
			// RTI pulls any codes.
			m.changed[regs.S] = byte(cc*7 + 1)
			asked(t, regs, m)
		}
	}
}

// Part of memory that can't be written stays as it is.
func TestP37_1Rom(t *testing.T) {
	r := rand.New(rand.NewSource(4))
	for range 20 {
		m := over(noise(r))
		m.rom = r.Intn(65537)
		for range 500 {
			asked(t, anyRegs(r), m)
		}
	}
}

// done is an instruction, written out by hand.
type done struct {
	name   string
	code   []byte // at 2000
	ahead  api.Regs
	memory map[uint16][]byte
	want   api.Regs
	wrote  map[uint16][]byte
	cycles int
	end    int
	loads  bool
}

var known = []done{
	{"NOP", []byte{0x12}, api.Regs{}, nil, api.Regs{PC: 0x2001}, nil, 2, core.Ends, false},
	{"not listed", []byte{0x01, 0x12}, api.Regs{A: 1, CC: 7}, nil, api.Regs{A: 1, CC: 7, PC: 0x2001}, nil, 2, core.Ends, false},
	{"a prefix behind a prefix", []byte{0x10, 0x11, 0x8C}, api.Regs{S: 9}, nil, api.Regs{S: 9, PC: 0x2002}, nil, 3, core.Ends, false},
	{"LEAX 1,X", []byte{0x30, 0x01}, api.Regs{X: 7}, nil, api.Regs{X: 8, PC: 0x2002}, nil, 5, core.Ends, false},
	{"LEAX ,X+", []byte{0x30, 0x80}, api.Regs{X: 7}, nil, api.Regs{X: 7, PC: 0x2002}, nil, 6, core.Ends, false},
	{"LEAY -1,Y", []byte{0x31, 0x3F}, api.Regs{Y: 1}, nil, api.Regs{CC: api.Z, PC: 0x2002}, nil, 5, core.Ends, false},
	{"LEAS 1,S", []byte{0x32, 0x61}, api.Regs{S: 0xFFFF}, nil, api.Regs{PC: 0x2002}, nil, 5, core.Ends, true},
	{"LEAU [$3000]", []byte{0x33, 0x9F, 0x30, 0x00}, api.Regs{}, map[uint16][]byte{0x3000: {0x12, 0x34}}, api.Regs{U: 0x1234, PC: 0x2004}, nil, 9, core.Ends, false},
	{"LDA #", []byte{0x86, 0x80}, api.Regs{CC: api.V}, nil, api.Regs{A: 0x80, CC: api.N, PC: 0x2002}, nil, 2, core.Ends, false},
	{"LDB <", []byte{0xD6, 0x10}, api.Regs{DP: 0x30}, map[uint16][]byte{0x3010: {9}}, api.Regs{B: 9, DP: 0x30, PC: 0x2002}, nil, 4, core.Ends, false},
	{"LDX ,X++", []byte{0xAE, 0x81}, api.Regs{X: 0xFFFF}, map[uint16][]byte{0xFFFF: {0x12, 0x34}}, api.Regs{X: 0x1234, PC: 0x2002}, nil, 8, core.Ends, false},
	{"STX ,X++", []byte{0xAF, 0x81}, api.Regs{X: 0x3000}, nil, api.Regs{X: 0x3002, PC: 0x2002}, map[uint16][]byte{0x3000: {0x30, 0x02}}, 8, core.Ends, false},
	{"STA ,-X", []byte{0xA7, 0x82}, api.Regs{A: 5, X: 0}, nil, api.Regs{A: 5, X: 0xFFFF, PC: 0x2002}, map[uint16][]byte{0xFFFF: {5}}, 6, core.Ends, false},
	{"LDS #", []byte{0x10, 0xCE, 0, 0}, api.Regs{S: 5}, nil, api.Regs{CC: api.Z, PC: 0x2004}, nil, 4, core.Ends, true},
	{"LDS >", []byte{0x10, 0xFE, 0x30, 0x00}, api.Regs{}, map[uint16][]byte{0x3000: {0x80, 1}}, api.Regs{S: 0x8001, CC: api.N, PC: 0x2004}, nil, 7, core.Ends, true},
	{"STS >", []byte{0x10, 0xFF, 0x30, 0x00}, api.Regs{S: 0x0102}, nil, api.Regs{S: 0x0102, PC: 0x2004}, map[uint16][]byte{0x3000: {1, 2}}, 7, core.Ends, false},
	{"CMPS #", []byte{0x11, 0x8C, 0, 1}, api.Regs{S: 1}, nil, api.Regs{S: 1, CC: api.Z, PC: 0x2004}, nil, 5, core.Ends, false},
	{"ADDD #", []byte{0xC3, 0xFF, 0xFF}, api.Regs{B: 1}, nil, api.Regs{CC: api.Z | api.C, PC: 0x2003}, nil, 4, core.Ends, false},
	{"INC >", []byte{0x7C, 0x30, 0x00}, api.Regs{}, map[uint16][]byte{0x3000: {0x7F}}, api.Regs{CC: api.N | api.V, PC: 0x2003}, map[uint16][]byte{0x3000: {0x80}}, 7, core.Ends, false},
	{"TST >", []byte{0x7D, 0x30, 0x00}, api.Regs{CC: api.V}, map[uint16][]byte{0x3000: {0}}, api.Regs{CC: api.Z, PC: 0x2003}, nil, 7, core.Ends, false},
	{"COMB", []byte{0x53}, api.Regs{B: 0x0F}, nil, api.Regs{B: 0xF0, CC: api.N | api.C, PC: 0x2001}, nil, 2, core.Ends, false},
	{"TSTA", []byte{0x4D}, api.Regs{A: 0xF0}, nil, api.Regs{A: 0xF0, CC: api.N, PC: 0x2001}, nil, 2, core.Ends, false},
	{"JMP >", []byte{0x7E, 0x30, 0x00}, api.Regs{}, nil, api.Regs{PC: 0x3000}, nil, 4, core.Ends, false},
	{"JSR [,S++]", []byte{0xAD, 0xF1}, api.Regs{S: 0x3000}, map[uint16][]byte{0x3000: {0x12, 0x34}}, api.Regs{S: 0x3000, PC: 0x1234}, map[uint16][]byte{0x3000: {0x20, 0x02}}, 13, core.Ends, false},
	{"BSR", []byte{0x8D, 0xFE}, api.Regs{S: 1}, nil, api.Regs{S: 0xFFFF, PC: 0x2000}, map[uint16][]byte{0xFFFF: {0x20}, 0: {0x02}}, 7, core.Ends, false},
	{"LBSR", []byte{0x17, 0x10, 0x00}, api.Regs{S: 0x3000}, nil, api.Regs{S: 0x2FFE, PC: 0x3003}, map[uint16][]byte{0x2FFE: {0x20, 0x03}}, 9, core.Ends, false},
	{"LBRA", []byte{0x16, 0xFF, 0xFD}, api.Regs{}, nil, api.Regs{PC: 0x2000}, nil, 5, core.Ends, false},
	{"BEQ", []byte{0x27, 0x10}, api.Regs{CC: api.Z}, nil, api.Regs{CC: api.Z, PC: 0x2012}, nil, 3, core.Ends, false},
	{"BNE", []byte{0x26, 0x10}, api.Regs{CC: api.Z}, nil, api.Regs{CC: api.Z, PC: 0x2002}, nil, 3, core.Ends, false},
	{"LBEQ, taken", []byte{0x10, 0x27, 0x10, 0x00}, api.Regs{CC: api.Z}, nil, api.Regs{CC: api.Z, PC: 0x3004}, nil, 6, core.Ends, false},
	{"LBEQ", []byte{0x10, 0x27, 0x10, 0x00}, api.Regs{}, nil, api.Regs{PC: 0x2004}, nil, 5, core.Ends, false},
	{"PSHS of all", []byte{0x34, 0xFF}, api.Regs{A: 1, B: 2, DP: 3, CC: 4, X: 0x0506, Y: 0x0708, U: 0x090A, S: 0x3010}, nil,
		api.Regs{A: 1, B: 2, DP: 3, CC: 4, X: 0x0506, Y: 0x0708, U: 0x090A, S: 0x3004, PC: 0x2002},
		map[uint16][]byte{0x3004: {4, 1, 2, 3, 5, 6, 7, 8, 9, 10, 0x20, 0x02}}, 17, core.Ends, false},
	{"PSHU S", []byte{0x36, 0x40}, api.Regs{S: 0x1234, U: 0x3002}, nil, api.Regs{S: 0x1234, U: 0x3000, PC: 0x2002}, map[uint16][]byte{0x3000: {0x12, 0x34}}, 7, core.Ends, false},
	{"PULU S", []byte{0x37, 0x40}, api.Regs{U: 0x3000}, map[uint16][]byte{0x3000: {0x12, 0x34}}, api.Regs{S: 0x1234, U: 0x3002, PC: 0x2002}, nil, 7, core.Ends, true},
	{"PULS U", []byte{0x35, 0x40}, api.Regs{S: 0x3000}, map[uint16][]byte{0x3000: {0x12, 0x34}}, api.Regs{U: 0x1234, S: 0x3002, PC: 0x2002}, nil, 7, core.Ends, false},
	{"PULS CC,PC", []byte{0x35, 0x81}, api.Regs{S: 0xFFFE}, map[uint16][]byte{0xFFFE: {0x81, 0x12}, 0: {0x34}}, api.Regs{CC: 0x81, S: 1, PC: 0x1234}, nil, 8, core.Ends, false},
	{"PULS of none", []byte{0x35, 0}, api.Regs{S: 3}, nil, api.Regs{S: 3, PC: 0x2002}, nil, 5, core.Ends, false},
	{"TFR X,S", []byte{0x1F, 0x14}, api.Regs{X: 7}, nil, api.Regs{X: 7, S: 7, PC: 0x2002}, nil, 6, core.Ends, true},
	{"TFR S,X", []byte{0x1F, 0x41}, api.Regs{S: 7}, nil, api.Regs{X: 7, S: 7, PC: 0x2002}, nil, 6, core.Ends, false},
	{"TFR PC,X", []byte{0x1F, 0x51}, api.Regs{}, nil, api.Regs{X: 0x2002, PC: 0x2002}, nil, 6, core.Ends, false},
	{"EXG S,PC", []byte{0x1E, 0x45}, api.Regs{S: 7}, nil, api.Regs{S: 0x2002, PC: 7}, nil, 8, core.Ends, true},
	{"EXG A,B", []byte{0x1E, 0x89}, api.Regs{A: 1, B: 2}, nil, api.Regs{A: 2, B: 1, PC: 0x2002}, nil, 8, core.Ends, false},
	{"RTS", []byte{0x39}, api.Regs{S: 0x3000}, map[uint16][]byte{0x3000: {0x12, 0x34}}, api.Regs{S: 0x3002, PC: 0x1234}, nil, 5, core.Ends, false},
	{"RTI of three", []byte{0x3B}, api.Regs{A: 9, CC: 0xFF, S: 0x3000}, map[uint16][]byte{0x3000: {0x7F, 0x12, 0x34, 0x56}}, api.Regs{A: 9, CC: 0x7F, S: 0x3003, PC: 0x1234}, nil, 6, core.Ends, false},
	{"RTI of all", []byte{0x3B}, api.Regs{S: 0x3000}, map[uint16][]byte{0x3000: {0x80, 1, 2, 3, 4, 5, 6, 7, 8, 9, 0x12, 0x34}},
		api.Regs{A: 1, B: 2, DP: 3, CC: 0x80, X: 0x0405, Y: 0x0607, U: 0x0809, S: 0x300C, PC: 0x1234}, nil, 15, core.Ends, false},
	{"SWI", []byte{0x3F}, api.Regs{A: 1, B: 2, DP: 3, CC: 4, X: 0x0506, Y: 0x0708, U: 0x090A, S: 0x3010}, map[uint16][]byte{0xFFFA: {0x12, 0x34}},
		api.Regs{A: 1, B: 2, DP: 3, CC: 0xD4, X: 0x0506, Y: 0x0708, U: 0x090A, S: 0x3004, PC: 0x1234},
		map[uint16][]byte{0x3004: {0x84, 1, 2, 3, 5, 6, 7, 8, 9, 10, 0x20, 0x01}}, 19, core.Ends, false},
	{"SWI2, whose vector it writes", []byte{0x10, 0x3F}, api.Regs{S: 0xFFF6}, map[uint16][]byte{0xFFF4: {0x12, 0x34}},
		api.Regs{CC: 0x80, S: 0xFFEA, PC: 0x2002}, map[uint16][]byte{0xFFEA: {0x80, 0, 0, 0, 0, 0, 0, 0, 0, 0, 0x20, 0x02}}, 20, core.Ends, false},
	{"SWI3", []byte{0x11, 0x3F}, api.Regs{CC: api.C, S: 12}, map[uint16][]byte{0xFFF2: {0x12, 0x34}},
		api.Regs{CC: 0x81, PC: 0x1234}, map[uint16][]byte{0: {0x81, 0, 0, 0, 0, 0, 0, 0, 0, 0, 0x20, 0x02}}, 20, core.Ends, false},
	{"SYNC", []byte{0x13}, api.Regs{CC: 0xFF}, nil, api.Regs{CC: 0xFF, PC: 0x2001}, nil, 3, core.Sync, false},
	{"CWAI", []byte{0x3C, 0xEF}, api.Regs{CC: 0x5F, S: 0x300C}, nil, api.Regs{CC: 0xCF, S: 0x3000, PC: 0x2002},
		map[uint16][]byte{0x3000: {0xCF, 0, 0, 0, 0, 0, 0, 0, 0, 0, 0x20, 0x02}}, 16, core.Cwai, false},
	{"ORCC", []byte{0x1A, 0x50}, api.Regs{CC: 1}, nil, api.Regs{CC: 0x51, PC: 0x2002}, nil, 3, core.Ends, false},
	{"ANDCC", []byte{0x1C, 0xAF}, api.Regs{CC: 0xFF}, nil, api.Regs{CC: 0xAF, PC: 0x2002}, nil, 3, core.Ends, false},
	{"ABX", []byte{0x3A}, api.Regs{B: 0xFF, X: 2}, nil, api.Regs{B: 0xFF, X: 0x101, PC: 0x2001}, nil, 3, core.Ends, false},
	{"DAA", []byte{0x19}, api.Regs{A: 154}, nil, api.Regs{CC: api.Z | api.C, PC: 0x2001}, nil, 2, core.Ends, false},
	{"SEX", []byte{0x1D}, api.Regs{B: 200}, nil, api.Regs{A: 255, B: 200, CC: api.N, PC: 0x2001}, nil, 2, core.Ends, false},
	{"MUL", []byte{0x3D}, api.Regs{A: 255, B: 255}, nil, api.Regs{A: 0xFE, B: 1, PC: 0x2001}, nil, 11, core.Ends, false},
}

func TestP37_1Known(t *testing.T) {
	for _, c := range known {
		m := holding(c.memory)
		for i, b := range c.code {
			m.changed[0x2000+uint16(i)] = b
		}
		after := m.copy()
		for at, l := range c.wrote {
			for i, b := range l {
				after.changed[at+uint16(i)] = b
			}
		}
		c.ahead.PC = 0x2000
		got := fast.Step(c.ahead, m)
		if want := (fast.Result{Regs: c.want, Cycles: c.cycles, End: c.end, Loads: c.loads}); got != want {
			t.Errorf("%s: %+v, not %+v", c.name, got, want)
		}
		if !same(m, after) {
			t.Errorf("%s: memory is %v, not %v", c.name, m.changed, after.changed)
		}
	}
}

// The instruction stands over the end of memory, and its bytes count as they are, not as it leaves them.
func TestP37_1Places(t *testing.T) {
	m := holding(map[uint16][]byte{0xFFFD: {0x10, 0xAE, 0x9F, 0x00, 0x01}, 0x8000: {0xB7, 0x80, 0x02, 0x12}})
	if got := asked(t, api.Regs{PC: 0xFFFD}, m); got.Regs.PC != 2 || got.Regs.Y != m.word(m.word(1)) || got.Cycles != 11 {
		t.Errorf("%+v", got)
	}
	if got := asked(t, api.Regs{A: 0xB6, PC: 0x8000}, m); got.Regs.PC != 0x8003 || got.Cycles != 5 {
		t.Errorf("%+v", got)
	}
}

// word: two bytes, behind the address 65535 the one at 0.
func (m memory) word(at uint16) uint16 { return uint16(m.Read(at))*256 + uint16(m.Read(at+1)) }

func TestP37_1Decode(t *testing.T) {
	r := rand.New(rand.NewSource(5))
	for range 20 {
		m := over(noise(r))
		for _, ahead := range [][]byte{nil, {0x10}, {0x11}} {
			for code := range 256 {
				at := uint16(r.Intn(65536))
				if r.Intn(3) == 0 {
					at = 65535 - uint16(r.Intn(6))
				}
				for i, b := range append(slices.Clone(ahead), byte(code)) {
					m.changed[at+uint16(i)] = b
				}
				want, e := inst.Of(m.part(at, 8)...)
				if e != api.OK {
					t.Fatal(e)
				}
				kept := m.copy()
				if got := fast.Decode(at, m); got != want {
					t.Errorf("% X at %04X: %+v, not %+v", m.part(at, 5), at, got, want)
				}
				if !same(m, kept) {
					t.Fatal("memory has changed")
				}
			}
		}
	}
	m := holding(map[uint16][]byte{0xFFFE: {0x10, 0xEE, 0xC9, 0x12, 0x34}})
	want := api.Inst{Page: 2, Code: 0xEE, Entry: api.Entry{Op: api.OpLdw, Mode: api.ModeIdx, Reg: api.RegS}, Post: 0xC9, Value: 0x1234, Len: 5}
	if got := fast.Decode(0xFFFE, m); got != want {
		t.Errorf("%+v, not %+v", got, want)
	}
}

func TestP37_1Row(t *testing.T) {
	r := rand.New(rand.NewSource(6))
	for range 20 {
		base := noise(r)
		for cc := range 256 {
			for kind := api.RowNmi; kind <= api.RowIrqW; kind++ {
				regs := anyRegs(r)
				regs.CC = byte(cc)
				one, two := over(base), over(base)
				if r.Intn(4) == 0 {
					one.rom, two.rom = 0xFFF0, 0xFFF0
				}
				want := played(t, kind, regs, one)
				got, ok := fast.Row(kind, regs, two)
				if got != want || !ok || !same(one, two) {
					t.Fatalf("the row %d of %+v: %+v, %v, not %+v; written %v, not %v", kind, regs, got, ok, want, two.changed, one.changed)
				}
			}
		}
	}
}

// Written out by hand.
func TestP37_1RowKnown(t *testing.T) {
	vectors := map[uint16][]byte{0xFFF6: {0x11, 0x11, 0x22, 0x22, 0x33, 0x33, 0x44, 0x44, 0x55, 0x55}}
	regs := api.Regs{A: 1, B: 2, DP: 3, CC: 4, X: 0x0506, Y: 0x0708, U: 0x090A, S: 0x3010, PC: 0x0B0C}
	whole := []byte{0x84, 1, 2, 3, 5, 6, 7, 8, 9, 10, 11, 12}
	for kind, c := range map[int]struct {
		cc     byte
		pc     uint16
		pushed []byte
		cycles int
	}{
		api.RowNmi:   {0xD4, 0x4444, whole, 19},
		api.RowIrq:   {0x94, 0x2222, whole, 19},
		api.RowFirq:  {0x54, 0x1111, []byte{4, 11, 12}, 10},
		api.RowReset: {0x54, 0x5555, nil, 3},
		api.RowNmiW:  {0x54, 0x4444, nil, 3},
		api.RowFirqW: {0x54, 0x1111, nil, 3},
		api.RowIrqW:  {0x14, 0x2222, nil, 3},
	} {
		m := holding(vectors)
		after := m.copy()
		want := fast.Result{Regs: regs, Cycles: c.cycles, End: core.Ends}
		want.Regs.CC, want.Regs.PC = c.cc, c.pc
		want.Regs.S -= uint16(len(c.pushed))
		for i, b := range c.pushed {
			after.changed[want.Regs.S+uint16(i)] = b
		}
		if kind == api.RowReset {
			want.Regs.DP = 0
		}
		if got, ok := fast.Row(kind, regs, m); got != want || !ok || !same(m, after) {
			t.Errorf("the row %d: %+v, %v, not %+v; memory %v", kind, got, ok, want, m.changed)
		}
	}
}

func TestP37_1NoRow(t *testing.T) {
	r := rand.New(rand.NewSource(7))
	m := over(noise(r))
	for _, kind := range []int{api.RowInst, -1, -2, -8, 8, 9, 10, 255, 256, 257, 1 << 32, 1<<32 + 1, math.MaxInt, math.MinInt, math.MinInt + 1} {
		if got, ok := fast.Row(kind, anyRegs(r), m); ok || got != (fast.Result{}) {
			t.Errorf("the row %d: %+v, %v", kind, got, ok)
		}
	}
	if len(m.changed) > 0 {
		t.Errorf("written: %v", m.changed)
	}
}

// stepped: Many, by Steps.
func stepped(regs api.Regs, m memory, most int) (api.Regs, int, int) {
	cycles := 0
	for n := range most {
		got := fast.Step(regs, m)
		regs = got.Regs
		cycles += got.Cycles
		if got.End != core.Ends {
			return regs, n + 1, cycles
		}
	}
	return regs, max(most, 0), cycles
}

func TestP37_2Many(t *testing.T) {
	r := rand.New(rand.NewSource(8))
	waits := 0
	for range 60 {
		base := noise(r)
		for range 10 {
			regs, most := anyRegs(r), r.Intn(120)
			one, two := over(base), over(base)
			want, steps, cycles := stepped(regs, one, most)
			got, n, all := fast.Many(regs, two, most)
			if got != want || n != steps || all != cycles || !same(one, two) {
				t.Fatalf("%d from %+v: %+v, %d, %d, not %+v, %d, %d", most, regs, got, n, all, want, steps, cycles)
			}
			if n < most {
				waits++
			}
		}
	}
	if waits == 0 {
		t.Error("none has waited")
	}
}

// Written out by hand: a loop that counts, and then waits.
func TestP37_2Known(t *testing.T) {
	program := map[uint16][]byte{
		0x1000: {0x86, 0x03, 0x4A, 0x26, 0xFD, 0x13, 0x4C, 0x3C, 0xFF, 0x4C},
		0xFFF8: {0x10, 0x09},
	}
	for _, c := range []struct {
		most, steps, cycles int
		want                api.Regs
	}{
		{math.MinInt, 0, 0, api.Regs{PC: 0x1000}},
		{-1, 0, 0, api.Regs{PC: 0x1000}},
		{0, 0, 0, api.Regs{PC: 0x1000}},
		{1, 1, 2, api.Regs{A: 3, PC: 0x1002}},
		{2, 2, 4, api.Regs{A: 2, PC: 0x1003}},
		{3, 3, 7, api.Regs{A: 2, PC: 0x1002}},
		{7, 7, 17, api.Regs{CC: api.Z, PC: 0x1005}},
		{8, 8, 20, api.Regs{CC: api.Z, PC: 0x1006}},
		{9, 8, 20, api.Regs{CC: api.Z, PC: 0x1006}},
		{math.MaxInt, 8, 20, api.Regs{CC: api.Z, PC: 0x1006}},
	} {
		regs, steps, cycles := fast.Many(api.Regs{PC: 0x1000}, holding(program), c.most)
		if regs != c.want || steps != c.steps || cycles != c.cycles {
			t.Errorf("%d: %+v, %d, %d, not %+v, %d, %d", c.most, regs, steps, cycles, c.want, c.steps, c.cycles)
		}
	}
	// It goes on behind SYNC if it is called again, and waits again behind CWAI.
	regs, steps, cycles := fast.Many(api.Regs{S: 0x4000, PC: 0x1006}, holding(program), 100)
	if regs != (api.Regs{A: 1, CC: api.E, S: 0x3FF4, PC: 0x1009}) || steps != 2 || cycles != 18 {
		t.Errorf("%+v, %d, %d", regs, steps, cycles)
	}
}

// broken is memory that can't be asked.
type broken struct{}

func (broken) Read(uint16) byte        { panic("no byte") }
func (broken) Write(uint16, byte) bool { panic("no place") }

// Memory that is none, or that panics, ends no call: it has 0 everywhere, as for layer 34 (P1 of DOC.md).
func TestP1NoMemory(t *testing.T) {
	r := rand.New(rand.NewSource(9))
	empty := func() memory {
		m := over(new([65536]byte))
		m.rom = 0
		return m
	}
	for range 200 {
		regs := anyRegs(r)
		want := fast.Step(regs, empty())
		if fast.Step(regs, nil) != want || fast.Step(regs, broken{}) != want {
			t.Fatalf("Step of %+v: %+v, %+v, not %+v", regs, fast.Step(regs, nil), fast.Step(regs, broken{}), want)
		}
		if fast.Decode(regs.PC, nil) != fast.Decode(regs.PC, empty()) || fast.Decode(regs.PC, broken{}) != fast.Decode(regs.PC, empty()) {
			t.Fatalf("Decode at %04X", regs.PC)
		}
		for kind := range 9 {
			want, ok := fast.Row(kind, regs, empty())
			one, a := fast.Row(kind, regs, nil)
			two, b := fast.Row(kind, regs, broken{})
			if one != want || two != want || a != ok || b != ok {
				t.Fatalf("the row %d of %+v: %+v, %+v, not %+v", kind, regs, one, two, want)
			}
		}
		wanted, steps, cycles := fast.Many(regs, empty(), 20)
		got, n, all := fast.Many(regs, broken{}, 20)
		if got != wanted || n != steps || all != cycles {
			t.Fatalf("Many of %+v: %+v, %d, %d", regs, got, n, all)
		}
	}
}

// The same call answers the same again (P2 of DOC.md).
func TestP2Again(t *testing.T) {
	r := rand.New(rand.NewSource(10))
	base := noise(r)
	for range 2000 {
		regs, kind := anyRegs(r), r.Intn(8)
		first := fast.Step(regs, over(base))
		row, ok := fast.Row(kind, regs, over(base))
		fast.Many(anyRegs(r), over(base), 3)
		again, too := fast.Row(kind, regs, over(base))
		if fast.Step(regs, over(base)) != first || again != row || too != ok {
			t.Fatalf("of %+v", regs)
		}
	}
}
