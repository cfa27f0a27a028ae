package core_test

import (
	"math"
	"math/rand"
	"testing"

	"spinet/api"
	"spinet/core"
)

// memory is 65536 bytes: those that all share, and what was written since.
type memory struct {
	base    *[65536]byte
	changed map[uint16]byte
}

func (m memory) read(at uint16) byte {
	if b, ok := m.changed[at]; ok {
		return b
	}
	return m.base[at]
}

func (m memory) write(at uint16, b byte) { m.changed[at] = b }

// word: two bytes, behind the address 65535 the one at 0.
func (m memory) word(at uint16) uint16 { return uint16(m.read(at))*256 + uint16(m.read(at+1)) }

// copy: memory that goes its own way.
func (m memory) copy() memory {
	out := over(m.base)
	for at, b := range m.changed {
		out.changed[at] = b
	}
	return out
}

// over: memory with these bytes.
func over(base *[65536]byte) memory { return memory{base, map[uint16]byte{}} }

// holding: memory of bytes 0, and some at addresses.
func holding(at map[uint16][]byte) memory {
	m := over(new([65536]byte))
	for from, l := range at {
		for i, b := range l {
			m.write(from+uint16(i), b)
		}
	}
	return m
}

// noise: bytes of any kind.
func noise(r *rand.Rand) *[65536]byte {
	var out [65536]byte
	r.Read(out[:])
	return &out
}

// anyRegs: any registers.
func anyRegs(r *rand.Rand) api.Regs {
	w := func() uint16 {
		// Near the ends sums wrap round.
		switch r.Intn(8) {
		case 0:
			return uint16(r.Intn(5))
		case 1:
			return 65535 - uint16(r.Intn(5))
		}
		return uint16(r.Intn(65536))
	}
	b := func() byte { return byte(r.Intn(256)) }
	return api.Regs{A: b(), B: b(), DP: b(), CC: b(), X: w(), Y: w(), U: w(), S: w(), PC: w()}
}

// cycle is what is told of a cycle: ahead of it and behind it.
type cycle struct {
	bus  core.Bus
	sign core.Sign
}

// step: a cycle of the row that is under way, over memory.
func step(t *testing.T, c *core.Core, m memory, r *rand.Rand) cycle {
	t.Helper()
	bus, ok := c.Want()
	again, too := c.Want()
	if !ok || !too || bus != again {
		t.Fatalf("Want: %+v, %v, then %+v, %v", bus, ok, again, too)
	}
	// Of a write what comes in counts for nothing.
	in := byte(r.Intn(256))
	if bus.Read {
		in = m.read(bus.Addr)
	} else {
		m.write(bus.Addr, bus.Data)
	}
	sign, ok := c.Tick(in)
	if !ok {
		t.Fatalf("Tick: no row is under way behind %+v", bus)
	}
	return cycle{bus, sign}
}

// finish: all cycles of a row that is under way.
func finish(t *testing.T, c *core.Core, m memory, r *rand.Rand) []cycle {
	t.Helper()
	var out []cycle
	for c.Active() {
		if len(out) == api.MaxRow {
			t.Fatalf("a row has more than %d cycles", api.MaxRow)
		}
		out = append(out, step(t, c, m, r))
	}
	return out
}

// play: a row of a kind, over memory.
func play(t *testing.T, c *core.Core, kind int, m memory, r *rand.Rand) []cycle {
	t.Helper()
	if !c.Begin(kind) {
		t.Fatalf("Begin(%d): no", kind)
	}
	return finish(t, c, m, r)
}

// numbers are of no row.
var numbers = []int{-1, -2, -8, 8, 9, 10, 100, 255, 256, 257, 1 << 32, 1<<32 + 1, math.MaxInt, math.MinInt, math.MinInt + 1}

func TestP27_1Constants(t *testing.T) {
	if core.Goes != 0 || core.Ends != 1 || core.Sync != 2 || core.Cwai != 3 {
		t.Error(core.Goes, core.Ends, core.Sync, core.Cwai)
	}
}

// idle: a Core without a row tells so, and stays as it is.
func idle(t *testing.T, c *core.Core, regs api.Regs) {
	t.Helper()
	for range 2 {
		if c.Active() {
			t.Error("a row is under way")
		}
		if bus, ok := c.Want(); bus != (core.Bus{}) || ok {
			t.Errorf("Want: %+v, %v", bus, ok)
		}
		if sign, ok := c.Tick(0x12); sign != (core.Sign{}) || ok {
			t.Errorf("Tick: %+v, %v", sign, ok)
		}
		for _, kind := range numbers {
			if c.Begin(kind) {
				t.Errorf("Begin(%d): yes", kind)
			}
		}
		if c.Now() != regs {
			t.Errorf("Now: %+v, not %+v", c.Now(), regs)
		}
	}
}

func TestP27_1WithoutRow(t *testing.T) {
	r := rand.New(rand.NewSource(1))
	idle(t, core.New(api.Regs{}), api.Regs{})
	for range 100 {
		regs := anyRegs(r)
		c := core.New(regs)
		idle(t, c, regs)
		if c.Regs != regs {
			t.Errorf("the register file: %+v", c.Regs)
		}
		// And behind a row, too: here one that was read out of memory of bytes 0: NEG of what stands at DP's page.
		play(t, c, api.RowInst, holding(nil), r)
		idle(t, c, c.Now())
	}
}

func TestP27_1Begin(t *testing.T) {
	r := rand.New(rand.NewSource(2))
	for kind := api.RowInst; kind <= api.RowIrqW; kind++ {
		c := core.New(anyRegs(r))
		m := over(noise(r))
		if !c.Begin(kind) || !c.Active() {
			t.Fatalf("Begin(%d): no", kind)
		}
		for c.Active() {
			bus, _ := c.Want()
			for other := api.RowInst; other <= api.RowIrqW; other++ {
				if c.Begin(other) {
					t.Errorf("Begin(%d) within a row %d: yes", other, kind)
				}
			}
			for _, other := range numbers {
				if c.Begin(other) {
					t.Errorf("Begin(%d) within a row %d: yes", other, kind)
				}
			}
			if again, ok := c.Want(); again != bus || !ok {
				t.Errorf("Begin changed %+v: %+v, %v", bus, again, ok)
			}
			step(t, c, m, r)
		}
		if !c.Begin(kind) {
			t.Errorf("Begin(%d) behind a row: no", kind)
		}
	}
}

// What goes wrong within a row changes nothing of it: it goes on as another one does that was left alone.
func TestP27_1NothingChanged(t *testing.T) {
	r := rand.New(rand.NewSource(3))
	for range 300 {
		regs, base, kind := anyRegs(r), noise(r), r.Intn(8)
		alone, other := core.New(regs), core.New(regs)
		want := play(t, alone, kind, over(base), r)
		m := over(base)
		other.Begin(kind)
		for i := range want {
			for _, n := range numbers {
				other.Begin(n)
			}
			other.Begin(i % 8)
			other.Active()
			other.Now()
			if got := step(t, other, m, r); got != want[i] {
				t.Fatalf("the cycle %d of a row %d: %+v, not %+v", i, kind, got, want[i])
			}
		}
		if other.Now() != alone.Now() || other.Active() {
			t.Fatalf("a row %d leaves %+v, not %+v", kind, other.Now(), alone.Now())
		}
	}
}

// Now tells the registers as the last row left them, up to the end of the next one.
func TestP27_1NowWithinRow(t *testing.T) {
	r := rand.New(rand.NewSource(4))
	for range 300 {
		regs := anyRegs(r)
		c := core.New(regs)
		m := over(noise(r))
		c.Begin(r.Intn(8))
		for c.Active() {
			if c.Now() != regs {
				t.Fatalf("Now within a row: %+v, not %+v", c.Now(), regs)
			}
			step(t, c, m, r)
		}
	}
}

// A row goes on from the registers that the one ahead left.
func TestP27_1RowBehindRow(t *testing.T) {
	m := holding(map[uint16][]byte{0x0100: {0x86, 0x05, 0x8B, 0x07, 0x1F, 0x89}})
	c := core.New(api.Regs{PC: 0x0100})
	r := rand.New(rand.NewSource(5))
	for _, want := range []api.Regs{{A: 5, PC: 0x0102}, {A: 12, PC: 0x0104}, {A: 12, B: 12, PC: 0x0106}} {
		play(t, c, api.RowInst, m, r)
		if c.Now() != want {
			t.Fatalf("%+v, not %+v", c.Now(), want)
		}
	}
}

// Two of them have nothing in common, and the same calls answer the same again (P2 of DOC.md).
func TestP2Alone(t *testing.T) {
	r := rand.New(rand.NewSource(6))
	for range 200 {
		base, kind := noise(r), r.Intn(8)
		regs, others := anyRegs(r), anyRegs(r)
		want := play(t, core.New(regs), kind, over(base), r)
		one, two := core.New(regs), core.New(others)
		m, n := over(base), over(noise(r))
		one.Begin(kind)
		for i := 0; one.Active(); i++ {
			if !two.Active() {
				two.Begin(r.Intn(8))
			}
			step(t, two, n, r)
			if got := step(t, one, m, r); got != want[i] {
				t.Fatalf("the cycle %d of a row %d: %+v, not %+v", i, kind, got, want[i])
			}
		}
	}
}

// What was read counts, not what stands there later, and not what stood at other addresses (P2 of DOC.md).
func TestP2BytesAlone(t *testing.T) {
	c := core.New(api.Regs{PC: 0x2000})
	c.Begin(api.RowInst)
	for _, in := range []byte{0xA6, 0x9F, 0x30, 0x00, 0xEE, 0x40, 0x00, 0xEE, 0x99} {
		if _, ok := c.Tick(in); !ok {
			t.Fatal("no row is under way")
		}
	}
	if want := (api.Regs{A: 0x99, CC: api.N, PC: 0x2004}); c.Now() != want || c.Active() {
		t.Errorf("%+v, not %+v", c.Now(), want)
	}
}

// Any bytes that come make rows that end (P1 of DOC.md).
func TestP1AnyBytes(t *testing.T) {
	r := rand.New(rand.NewSource(7))
	c := core.New(anyRegs(r))
	for range 30000 {
		c.Begin(r.Intn(8))
		for n := 0; c.Active(); n++ {
			if n == api.MaxRow {
				t.Fatalf("a row has more than %d cycles", n)
			}
			if _, ok := c.Want(); !ok {
				t.Fatal("Want: no row is under way")
			}
			c.Tick(byte(r.Intn(256)))
		}
	}
}
