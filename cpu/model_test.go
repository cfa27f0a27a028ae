package cpu_test

import (
	"math/rand"
	"slices"
	"testing"

	"spinet/api"
	"spinet/arbiter"
	"spinet/core"
	"spinet/cpu"
	"spinet/edge"
	"spinet/ram"
)

// model plays a whole script as one program that waits for its next cycle, where the processor is asked for one cycle after another. Beside rows it leans on nothing of what the processor is made of.
type model struct {
	kind   int
	script []api.Pins
	now    cpu.State // as it is between two cycles
	mem    [65536]byte
	rom    int
	told   []api.Rec
	states []cpu.State // ahead of each cycle, and behind the last one
}

// Why a model leaves what it does.
type (
	over struct{} // the script is over
	cut  struct{} // RESET is active
)

// pins: those of the next cycle, whosever it is.
func (m *model) pins() api.Pins {
	s := m.now
	s.Log = slices.Clone(s.Log)
	m.states = append(m.states, s)
	if len(m.script) == 0 {
		panic(over{})
	}
	p := m.script[0]
	m.script = m.script[1:]
	l := &m.now.Latch
	if p.Nmi && !l.Level && l.Armed {
		l.Set = true
	}
	l.Level = p.Nmi
	if p.Reset {
		panic(cut{})
	}
	return p
}

func (m *model) tell(r api.Rec) { m.told = append(m.told, r) }

func (m *model) tellGranted() { m.tell(api.Rec{Addr: 0xFFFF, Read: true, BA: true, BS: true}) }

func (m *model) tellDead() { m.tell(api.Rec{Addr: 0xFFFF, Read: true}) }

// own: the pins of the next cycle of the processor's own; those of others are told.
func (m *model) own() api.Pins {
	p := m.pins()
	if m.kind == 0 {
		for p.Req {
			m.tellGranted()
			p = m.pins()
		}
		return p
	}
	if !p.Req {
		return p
	}
	m.tellDead()
	m.now.Arb = arbiter.State{Phase: arbiter.Gone}
	p = m.pins()
	for n := 1; p.Req && n <= 15; n++ {
		m.tellGranted()
		m.now.Arb.Count = n
		p = m.pins()
	}
	m.tellDead()
	m.now.Arb = arbiter.State{Phase: arbiter.Back}
	p = m.pins()
	m.now.Arb = arbiter.State{}
	return p
}

// play: the whole script, from the state that is now.
func (m *model) play() {
	next := m.rows
	for {
		switch m.until(next).(type) {
		case over:
			return
		case cut:
			m.now.Latch.Armed, m.now.Latch.Set = false, false
			m.now.Arb = arbiter.State{}
			m.now.Mode, m.now.Row, m.now.Log = api.InReset, 0, nil
			m.tell(api.Rec{Addr: 0xFFFE, Data: m.mem[0xFFFE], Read: true, AVMA: true, Mine: true})
			next = m.afterReset
		}
	}
}

// until: what goes on for ever, till there is a reason to leave it.
func (m *model) until(f func()) (why any) {
	defer func() { why = recover() }()
	f()
	return nil
}

func (m *model) afterReset() {
	m.own()
	m.row(api.RowReset)
	m.rows()
}

// rows: rows from a boundary on.
func (m *model) rows() {
	for {
		p := m.own()
		if p.Halt {
			m.tell(api.Rec{Addr: 0xFFFF, Read: true, BA: true, BS: true, LIC: true})
			continue
		}
		switch m.row(m.wanted(p)) {
		case core.Sync:
			m.sync()
		case core.Cwai:
			m.cwai()
		}
	}
}

// wanted: what begins at a boundary; NMI's edge is gone then.
func (m *model) wanted(p api.Pins) int {
	cc := m.now.Regs.CC
	if m.now.Latch.Set {
		m.now.Latch.Set = false
		return api.RowNmi
	}
	if p.Firq && cc&0x40 == 0 {
		return api.RowFirq
	}
	if p.Irq && cc&0x10 == 0 {
		return api.RowIrq
	}
	return api.RowInst
}

// row: a row, whose first cycle is the processor's own already; how it ends.
func (m *model) row(kind int) int {
	c := core.New(m.now.Regs)
	c.Begin(kind)
	m.now.Mode, m.now.Row = api.InRow, kind
	for {
		bus, _ := c.Want()
		b := bus.Data
		if bus.Read {
			b = m.mem[bus.Addr]
		} else if int(bus.Addr) < m.rom {
			m.mem[bus.Addr] = b
		}
		sign, _ := c.Tick(b)
		m.tell(api.Rec{Addr: bus.Addr, Data: b, Read: bus.Read, BS: bus.BS, LIC: sign.LIC, AVMA: sign.AVMA, BUSY: bus.BUSY, Mine: true})
		m.now.Log = append(m.now.Log, b)
		if sign.Loads {
			m.now.Latch.Armed = true
		}
		if !c.Active() {
			m.now.Mode, m.now.Row, m.now.Log = api.AtBoundary, 0, nil
			m.now.Regs = c.Now()
			return sign.End
		}
		m.own()
	}
}

func (m *model) sync() {
	m.now.Mode = api.InSync
	for {
		p := m.own()
		if m.now.Latch.Set || p.Firq || p.Irq {
			m.tell(api.Rec{Addr: 0xFFFF, Data: m.mem[0xFFFF], Read: true, LIC: true, AVMA: true, Mine: true})
			m.now.Mode = api.AtBoundary
			return
		}
		m.tell(api.Rec{Addr: 0xFFFF, Read: true, BA: true, Mine: true})
	}
}

func (m *model) cwai() {
	m.now.Mode = api.InCwai
	for {
		kind := m.wanted(m.own())
		m.tell(api.Rec{Addr: 0xFFFF, Data: m.mem[0xFFFF], Read: true, AVMA: kind != api.RowInst, Mine: true})
		if kind == api.RowInst {
			continue
		}
		kind += api.RowNmiW - api.RowNmi
		m.now.Mode, m.now.Row = api.InRow, kind
		m.own()
		m.row(kind)
		return
	}
}

// anyCode: a byte of a program, among which are many that wait, load S, and go into and out of interrupts.
func anyCode(r *rand.Rand) byte {
	often := []byte{0x10, 0x11, 0x12, 0x13, 0x1A, 0x1C, 0x1E, 0x1F, 0x32, 0x3B, 0x3C, 0x3F, 0xCE, 0xEE, 0xEF, 0x00, 0xFF, 0xAF, 0x13, 0x3C, 0x34, 0x35, 0x39}
	if r.Intn(2) == 0 {
		return often[r.Intn(len(often))]
	}
	return byte(r.Intn(256))
}

// anyPins: any pins, of which most are active now and then.
func anyPins(r *rand.Rand) api.Pins {
	on := func(often int) bool { return r.Intn(100) < often }
	return api.Pins{Reset: on(1), Nmi: on(20), Firq: on(7), Irq: on(7), Halt: on(10), Req: on(15)}
}

// anyScript: any script, some parts of which stay as they are for long, and some of which have no active pin.
func anyScript(r *rand.Rand, n int) []api.Pins {
	var out []api.Pins
	for len(out) < n {
		p := anyPins(r)
		if r.Intn(3) == 0 {
			p = api.Pins{}
		}
		for range []int{1, 1, 1, 2, 5, 12, 40}[r.Intn(7)] {
			out = append(out, p)
		}
	}
	return out[:n]
}

func anyRegs(r *rand.Rand) api.Regs {
	w := func() uint16 { return uint16(r.Intn(65536)) }
	b := func() byte { return byte(r.Intn(256)) }
	regs := api.Regs{A: b(), B: b(), DP: b(), CC: b(), X: w(), Y: w(), U: w(), S: w(), PC: w()}
	if r.Intn(2) == 0 {
		regs.CC &^= api.F | api.I
	}
	return regs
}

// anyModel: a model that begins at a boundary.
func anyModel(r *rand.Rand, n int) *model {
	m := &model{kind: r.Intn(2), rom: 65536, script: anyScript(r, n)}
	if r.Intn(3) == 0 {
		m.rom = r.Intn(65537)
	}
	for i := range m.mem {
		m.mem[i] = anyCode(r)
	}
	m.now = cpu.State{Regs: anyRegs(r)}
	m.now.Latch = edge.Latch{Level: r.Intn(2) == 0, Armed: r.Intn(2) == 0}
	m.now.Latch.Set = m.now.Latch.Armed && r.Intn(2) == 0
	return m
}

// asModel: a processor as a model is, and its memory.
func asModel(t *testing.T, m *model) (*cpu.Cpu, *ram.Ram) {
	t.Helper()
	memory, e := ram.New(m.mem[:], m.rom)
	if e != api.OK {
		t.Fatal(e)
	}
	return restored(t, m.kind, m.now), memory
}

// Each cycle of any script, over any bytes, is what the model tells, and so is the state behind it.
func TestP34_1AnyScript(t *testing.T) {
	r := rand.New(rand.NewSource(34))
	modes := map[int]int{}
	for range 600 {
		m := anyModel(r, 400)
		c, memory := asModel(t, m)
		script := m.script
		m.play()
		for i, p := range script {
			if s := c.State(); !equal(s, m.states[i]) || c.Mode() != s.Mode || c.Regs() != s.Regs {
				t.Fatalf("ahead of the cycle %d:\n%+v, not\n%+v", i, s, m.states[i])
			}
			if got := c.Cycle(p, memory); got != m.told[i] {
				t.Fatalf("the cycle %d, with %+v, from %+v:\n%+v, not\n%+v", i, p, m.states[i], got, m.told[i])
			}
			modes[c.Mode()*10+c.State().Row]++
		}
		if s := m.states[len(script)]; !equal(c.State(), s) {
			t.Fatalf("at the end:\n%+v, not\n%+v", c.State(), s)
		}
		for at, b := range m.mem {
			if memory.Read(uint16(at)) != b {
				t.Fatalf("at %04X: %02X, not %02X", at, memory.Read(uint16(at)), b)
			}
		}
	}
	// All modes and rows were there, or little is said.
	for _, k := range []int{0, 10, 11, 12, 13, 14, 15, 16, 17, 20, 30, 40} {
		if modes[k] < 20 {
			t.Errorf("the mode %d, with the row %d, was there %d times", k/10, k%10, modes[k])
		}
	}
}

// Behind any cycle, what is restored is as the processor is, and goes on as it.
func TestP34_4AnyState(t *testing.T) {
	r := rand.New(rand.NewSource(35))
	for range 100 {
		m := anyModel(r, 250)
		alone, memory := asModel(t, m)
		var want []api.Rec
		for _, p := range m.script {
			want = append(want, alone.Cycle(p, memory))
		}
		c, memory := asModel(t, m)
		for i := range 200 {
			s := c.State()
			other := restored(t, c.Kind(), s)
			// It has bytes of its own.
			clear(s.Log)
			if other.Kind() != c.Kind() || other.Mode() != c.Mode() || other.Regs() != c.Regs() || !equal(other.State(), c.State()) {
				t.Fatalf("%+v, not %+v", other.State(), c.State())
			}
			own := memory.Copy()
			for n := i; n < i+30; n++ {
				if got := other.Cycle(m.script[n], own); got != want[n] {
					t.Fatalf("the cycle %d, restored ahead of %d: %+v, not %+v", n, i, got, want[n])
				}
			}
			c.Cycle(m.script[i], memory)
		}
	}
}

// A processor that is restored all the time goes as one that is left alone.
func TestP34_4RestoredAlways(t *testing.T) {
	r := rand.New(rand.NewSource(36))
	for range 150 {
		m := anyModel(r, 300)
		c, memory := asModel(t, m)
		other, own := asModel(t, m)
		for i, p := range m.script {
			want := c.Cycle(p, memory)
			if got := other.Cycle(p, own); got != want {
				t.Fatalf("the cycle %d: %+v, not %+v", i, got, want)
			}
			other = restored(t, other.Kind(), other.State())
		}
		if !equal(c.State(), other.State()) || !ram.Same(memory, own) {
			t.Fatalf("%+v, not %+v", other.State(), c.State())
		}
	}
}

// Two processors over memories of their own have nothing in common (P2 of DOC.md).
func TestP2Alone(t *testing.T) {
	r := rand.New(rand.NewSource(37))
	for range 100 {
		m, n := anyModel(r, 200), anyModel(r, 200)
		alone, memory := asModel(t, m)
		var want []api.Rec
		for _, p := range m.script {
			want = append(want, alone.Cycle(p, memory))
		}
		one, first := asModel(t, m)
		two, second := asModel(t, n)
		for i, p := range m.script {
			two.Cycle(n.script[i], second)
			if got := one.Cycle(p, first); got != want[i] {
				t.Fatalf("the cycle %d: %+v, not %+v", i, got, want[i])
			}
		}
	}
}
