package machine_test

import (
	"bytes"
	"math"
	"math/rand"
	"slices"
	"testing"

	"spinet/api"
	"spinet/arbiter"
	"spinet/cpu"
	"spinet/edge"
	"spinet/machine"
	"spinet/ram"
)

// parts is a machine as the tests know it: a processor and memory, each by itself.
type parts struct {
	shape api.Config
	cpu   *cpu.Cpu
	ram   *ram.Ram
}

// newParts: those of a machine.
func newParts(t *testing.T, c api.Config, s cpu.State, image []byte) *parts {
	t.Helper()
	p, e := cpu.Restore(c.Kind, s)
	m, f := ram.New(image, c.Rom)
	if e != api.OK || f != api.OK {
		t.Fatalf("%+v, %+v: %v, %v", c, s, e, f)
	}
	return &parts{c, p, m}
}

// equal: are two states alike? No bytes are as none.
func equal(a, b cpu.State) bool {
	return a.Mode == b.Mode && a.Row == b.Row && bytes.Equal(a.Log, b.Log) && a.Regs == b.Regs && a.Latch == b.Latch && a.Arb == b.Arb
}

// check: is a machine as its parts must be?
func (p *parts) check(t *testing.T, m *machine.Machine) {
	t.Helper()
	s := p.cpu.State()
	if m.Config() != p.shape || m.Regs() != p.cpu.Regs() || m.Mode() != p.cpu.Mode() || !equal(m.State(), s) {
		t.Fatalf("%+v, %+v, %d, %+v, not %+v, %+v", m.Config(), m.Regs(), m.Mode(), m.State(), p.shape, s)
	}
	if !ram.Same(m.Ram(), p.ram) {
		t.Fatal("memory is another one")
	}
}

// step: Step, by the words of the chapter.
func (p *parts) step() (int, bool) {
	switch p.cpu.Mode() {
	case api.InSync, api.InCwai:
		p.cpu.Cycle(api.Pins{}, p.ram)
		return 1, p.cpu.Mode() == api.AtBoundary
	}
	for n := 1; ; n++ {
		if !p.cpu.Cycle(api.Pins{}, p.ram).Mine {
			continue
		}
		switch p.cpu.Mode() {
		case api.AtBoundary:
			return n, true
		case api.InSync, api.InCwai:
			return n, false
		}
	}
}

// made: a machine that must be right.
func made(t *testing.T, c api.Config, s cpu.State, image []byte) *machine.Machine {
	t.Helper()
	m, e := machine.Restore(c, s, image)
	if m == nil || e != api.OK {
		t.Fatalf("Restore of %+v, %+v, and %d bytes: %v", c, s, len(image), e)
	}
	return m
}

// holding: a machine that is new but for its registers, with bytes at addresses.
func holding(t *testing.T, kind int, regs api.Regs, at map[int][]byte) *machine.Machine {
	t.Helper()
	m := made(t, api.Config{Kind: kind, Rom: 65536}, cpu.State{Regs: regs}, nil)
	for from, l := range at {
		m.Ram().Load(from, l...)
	}
	return m
}

func noise(r *rand.Rand, n int) []byte {
	out := make([]byte, n)
	r.Read(out)
	return out
}

// anyRegs: any registers, with all interrupts let in as often as not.
func anyRegs(r *rand.Rand) api.Regs {
	w := func() uint16 { return uint16(r.Intn(65536)) }
	b := func() byte { return byte(r.Intn(256)) }
	return api.Regs{A: b(), B: b(), DP: b(), CC: b() & [2]byte{0xAF, 0xFF}[r.Intn(2)], X: w(), Y: w(), U: w(), S: w(), PC: w()}
}

// anyImage: bytes of any kind, among them many that wait, and that load S.
func anyImage(r *rand.Rand) []byte {
	out := noise(r, 65536)
	for range 6000 {
		copy(out[r.Intn(65530):], [][]byte{{0x13}, {0x13, 0x13}, {0x3C, 0xAF}, {0x10, 0xCE, 0x40, 0}, {0x32, 0x61}}[r.Intn(5)])
	}
	return out
}

// anyPins: the pins of so many cycles; they stay as they are for a while.
func anyPins(r *rand.Rand, n int) []api.Pins {
	out := make([]api.Pins, n)
	var p api.Pins
	for i := range out {
		rare := func(was bool, often int) bool {
			if was {
				return r.Intn(3) > 0
			}
			return r.Intn(often) == 0
		}
		p = api.Pins{Reset: rare(p.Reset, 150), Nmi: rare(p.Nmi, 40), Firq: rare(p.Firq, 60), Irq: rare(p.Irq, 60), Halt: rare(p.Halt, 40), Req: rare(p.Req, 20)}
		out[i] = p
	}
	return out
}

// anyState: what a processor of a kind is behind some cycles.
func anyState(r *rand.Rand, t *testing.T, kind int, image []byte) cpu.State {
	t.Helper()
	p := newParts(t, api.Config{Kind: kind, Rom: 65536}, cpu.State{Regs: anyRegs(r), Latch: edge.Latch{Armed: r.Intn(2) == 0}}, image)
	for _, x := range anyPins(r, r.Intn(120)) {
		p.cpu.Cycle(x, p.ram)
	}
	return p.cpu.State()
}

// shapes are those at their edges.
func shapes() []api.Config {
	var out []api.Config
	for kind := range 2 {
		for _, rom := range []int{0, 1, 255, 0x8000, 0xF000, 65535, 65536} {
			out = append(out, api.Config{Kind: kind, Rom: rom})
		}
	}
	return out
}

func TestP35_1New(t *testing.T) {
	r := rand.New(rand.NewSource(1))
	for _, c := range shapes() {
		for _, n := range []int{0, 1, 300, 65535, 65536} {
			image := noise(r, n)
			kept := slices.Clone(image)
			m, e := machine.New(c, image)
			if m == nil || e != api.OK {
				t.Fatalf("New of %+v and %d bytes: %v", c, n, e)
			}
			p := newParts(t, c, cpu.State{}, image)
			p.check(t, m)
			if m.Mode() != api.AtBoundary || m.Regs() != (api.Regs{}) || !bytes.Equal(m.Ram().Part(0, n), image) {
				t.Errorf("New of %+v: %d, %+v", c, m.Mode(), m.Regs())
			}
			// What comes in isn't kept.
			clear(image)
			p.check(t, m)
			copy(image, kept)
			m.Ram().Load(0, noise(r, 65536)...)
			if !bytes.Equal(image, kept) {
				t.Error("the machine changed what it was given")
			}
		}
	}
	if m, e := machine.New(api.Config{Rom: 5}, nil); m == nil || e != api.OK {
		t.Error(e)
	}
}

// wrong: New and Restore answer an error, and no machine.
func wrong(t *testing.T, c api.Config, s cpu.State, image []byte, want api.Errno) {
	t.Helper()
	if m, e := machine.Restore(c, s, image); m != nil || e != want {
		t.Errorf("Restore of %+v, %+v, and %d bytes: %v, %v, not %v", c, s, len(image), m, e, want)
	}
	if !equal(s, cpu.State{}) {
		return
	}
	if m, e := machine.New(c, image); m != nil || e != want {
		t.Errorf("New of %+v and %d bytes: %v, %v, not %v", c, len(image), m, e, want)
	}
}

// The error that the chapter names first is the answer.
func TestP35_1Errors(t *testing.T) {
	fit, great := make([]byte, 65536), make([]byte, 65537)
	states := []cpu.State{{}, {Mode: 9}, {Mode: api.InRow, Log: []byte{0x12, 0x12}}}
	for _, far := range []int{-1, 2, 3, 256, 257, -256, 1 << 32, math.MaxInt, math.MinInt} {
		for _, s := range states {
			for _, image := range [][]byte{nil, fit, great} {
				for _, rom := range []int{0, 65536, 65537, -1} {
					wrong(t, api.Config{Kind: far, Rom: rom}, s, image, api.ErrArg)
				}
			}
		}
	}
	for kind := range 2 {
		for _, s := range states {
			for _, rom := range []int{-1, 65537, 65538, 131072, 1 << 32, -65536, math.MaxInt, math.MinInt} {
				wrong(t, api.Config{Kind: kind, Rom: rom}, s, nil, api.ErrRange)
				wrong(t, api.Config{Kind: kind, Rom: rom}, s, great, api.ErrRange)
			}
			for _, rom := range []int{0, 1, 65536} {
				wrong(t, api.Config{Kind: kind, Rom: rom}, s, great, api.ErrSize)
			}
		}
		c := api.Config{Kind: kind, Rom: 65536}
		wrong(t, c, cpu.State{Mode: 9}, fit, api.ErrArg)
		wrong(t, c, cpu.State{Mode: -1}, nil, api.ErrArg)
		wrong(t, c, cpu.State{Latch: edge.Latch{Set: true}}, nil, api.ErrArg)
		wrong(t, c, cpu.State{Row: 1}, nil, api.ErrArg)
		wrong(t, c, cpu.State{Log: []byte{1}}, nil, api.ErrArg)
		wrong(t, c, cpu.State{Mode: api.InRow}, nil, api.ErrArg)
		wrong(t, c, cpu.State{Mode: api.InRow, Log: []byte{0x12, 0x12}}, fit, api.ErrForm)
		wrong(t, c, cpu.State{Arb: arbiter.State{Phase: arbiter.Gone, Count: 16}}, nil, api.ErrArg)
	}
	wrong(t, api.Config{Kind: 0, Rom: 65536}, cpu.State{Arb: arbiter.State{Phase: arbiter.Gone}}, nil, api.ErrArg)
}

func TestP35_1Restore(t *testing.T) {
	r := rand.New(rand.NewSource(2))
	modes := map[int]int{}
	for range 600 {
		c := shapes()[r.Intn(14)]
		image := anyImage(r)[:65536-r.Intn(2)*r.Intn(65537)]
		s := anyState(r, t, c.Kind, image)
		modes[s.Mode]++
		given := s
		given.Log = slices.Clone(s.Log)
		m := made(t, c, given, image)
		p := newParts(t, c, s, image)
		p.check(t, m)
		// Its bytes aren't kept, either.
		clear(given.Log)
		clear(image)
		p.check(t, m)
		clear(m.State().Log)
		p.check(t, m)
	}
	if len(modes) != 5 {
		t.Errorf("modes: %v", modes)
	}
}

// Ram is the memory itself.
func TestP35_1Ram(t *testing.T) {
	m := holding(t, 0, api.Regs{}, map[int][]byte{0: {0x86, 0x05, 0xB7, 0x01, 0x00}})
	if m.Ram() != m.Ram() {
		t.Error("another one each time")
	}
	m.Ram().Poke(1, 9)
	m.Steps(2)
	if m.Regs().A != 9 || m.Ram().Read(0x0100) != 9 {
		t.Errorf("%+v, %02X", m.Regs(), m.Ram().Read(0x0100))
	}
}

func TestP35_2Cycle(t *testing.T) {
	r := rand.New(rand.NewSource(3))
	for range 60 {
		c := shapes()[r.Intn(14)]
		image := anyImage(r)
		s := anyState(r, t, c.Kind, image)
		m, p := made(t, c, s, image), newParts(t, c, s, image)
		for i, x := range anyPins(r, 300) {
			want := p.cpu.Cycle(x, p.ram)
			if got := m.Cycle(x); got != want {
				t.Fatalf("the cycle %d, of %+v: %+v, not %+v", i, x, got, want)
			}
			if m.Mode() != p.cpu.Mode() || m.Regs() != p.cpu.Regs() {
				t.Fatalf("behind the cycle %d: %+v, not %+v", i, m.State(), p.cpu.State())
			}
		}
		p.check(t, m)
	}
}

func TestP35_2Run(t *testing.T) {
	r := rand.New(rand.NewSource(4))
	for range 60 {
		c := shapes()[r.Intn(14)]
		image := anyImage(r)
		s := anyState(r, t, c.Kind, image)
		m, p := made(t, c, s, image), newParts(t, c, s, image)
		for _, n := range []int{0, 1, 2, 3, r.Intn(100), 0, r.Intn(100)} {
			script := anyPins(r, n)
			kept := slices.Clone(script)
			var want []api.Rec
			for _, x := range script {
				want = append(want, p.cpu.Cycle(x, p.ram))
			}
			got := m.Run(script...)
			if !slices.Equal(got, want) {
				t.Fatalf("%v, not %v", got, want)
			}
			p.check(t, m)
			clear(got)
			if !slices.Equal(script, kept) {
				t.Fatal("Run changed what it was given")
			}
		}
	}
}

func TestP35_2Known(t *testing.T) {
	m := holding(t, 1, api.Regs{}, map[int][]byte{0: {0x86, 0x05, 0xB7, 0x01, 0x00}, 0xFFFF: {0xEE}})
	got := m.Run(make([]api.Pins, 7)...)
	want := []api.Rec{
		{Addr: 0, Data: 0x86, Read: true, AVMA: true, Mine: true},
		{Addr: 1, Data: 5, Read: true, LIC: true, AVMA: true, Mine: true},
		{Addr: 2, Data: 0xB7, Read: true, AVMA: true, Mine: true},
		{Addr: 3, Data: 1, Read: true, AVMA: true, Mine: true},
		{Addr: 4, Read: true, Mine: true},
		{Addr: 0xFFFF, Data: 0xEE, Read: true, AVMA: true, Mine: true},
		{Addr: 0x0100, Data: 5, LIC: true, AVMA: true, Mine: true},
	}
	if !slices.Equal(got, want) {
		t.Errorf("%+v, not %+v", got, want)
	}
	if got := m.Cycle(api.Pins{Req: true}); got != (api.Rec{Addr: 0xFFFF, Read: true}) {
		t.Errorf("%+v", got)
	}
}

// stepped: Step must tell so many, and whether it is at a boundary.
func stepped(t *testing.T, m *machine.Machine, cycles int, at bool) {
	t.Helper()
	if n, ok := m.Step(); n != cycles || ok != at {
		t.Errorf("Step: %d, %v, not %d, %v", n, ok, cycles, at)
	}
}

// Written out by hand.
func TestP35_3Known(t *testing.T) {
	for kind := range 2 {
		m := holding(t, kind, api.Regs{}, map[int][]byte{0: {0x12, 0x86, 0x05, 0x01, 0x3D, 0x13, 0x4C}})
		stepped(t, m, 2, true)
		stepped(t, m, 2, true)
		stepped(t, m, 2, true)
		stepped(t, m, 11, true)
		stepped(t, m, 3, false)
		// It waits on, a cycle each.
		stepped(t, m, 1, false)
		stepped(t, m, 1, false)
		if m.Mode() != api.InSync || m.Regs().PC != 6 {
			t.Errorf("%d, %+v", m.Mode(), m.Regs())
		}
		// Within a row: what is left of it.
		m = holding(t, kind, api.Regs{}, map[int][]byte{0: {0x3D}})
		m.Run(make([]api.Pins, 4)...)
		stepped(t, m, 7, true)
		// Behind RESET: the way that follows it.
		m.Cycle(api.Pins{Reset: true})
		stepped(t, m, 3, true)
		m = holding(t, kind, api.Regs{S: 0x4000}, map[int][]byte{0: {0x3C, 0xFF}})
		stepped(t, m, 16, false)
		stepped(t, m, 1, false)
		if m.Mode() != api.InCwai {
			t.Errorf("%d", m.Mode())
		}
	}
}

// An edge of NMI that was kept ends a wait, or begins its row.
func TestP35_3Nmi(t *testing.T) {
	kept := edge.Latch{Armed: true, Set: true}
	image := []byte{0x12, 0x12, 0x13}
	for kind := range 2 {
		c := api.Config{Kind: kind, Rom: 65536}
		m := made(t, c, cpu.State{Latch: kept}, image)
		stepped(t, m, 19, true)
		stepped(t, made(t, c, cpu.State{Mode: api.InSync, Latch: kept}, image), 1, true)
		// Behind CWAI the cycle that ends the wait isn't at a boundary: the vector is still to be read.
		m = made(t, c, cpu.State{Mode: api.InCwai, Latch: kept}, image)
		stepped(t, m, 1, false)
		if m.Mode() != api.InRow {
			t.Errorf("%d", m.Mode())
		}
		stepped(t, m, 3, true)
	}
}

// Cycles that are nobody's count, but end no Step, even though it is at a boundary behind them.
func TestP35_3Dead(t *testing.T) {
	m := holding(t, 1, api.Regs{}, map[int][]byte{0: {0x12, 0x12, 0x13}})
	m.Cycle(api.Pins{Req: true})
	stepped(t, m, 3, true)
	m.Run(make([]api.Pins, 1)...)
	m.Cycle(api.Pins{Req: true})
	m.Cycle(api.Pins{Req: true})
	stepped(t, m, 2, true)
	stepped(t, m, 3, false)
	// One that waits has one cycle alone, whosever it is.
	m.Cycle(api.Pins{Req: true})
	stepped(t, m, 1, false)
	m.Cycle(api.Pins{Req: true})
	if s := m.State(); s.Arb.Phase != arbiter.Run || s.Mode != api.InSync {
		t.Errorf("%+v", s)
	}
	// TSC leaves none behind.
	m = holding(t, 0, api.Regs{}, map[int][]byte{0: {0x12}})
	m.Run(api.Pins{Req: true}, api.Pins{Req: true})
	stepped(t, m, 2, true)
}

func TestP35_3Step(t *testing.T) {
	r := rand.New(rand.NewSource(5))
	ahead := map[int]int{}
	for range 400 {
		c := shapes()[r.Intn(14)]
		image := anyImage(r)
		s := anyState(r, t, c.Kind, image)
		m, p := made(t, c, s, image), newParts(t, c, s, image)
		for range 8 {
			ahead[m.Mode()]++
			want, at := p.step()
			stepped(t, m, want, at)
			p.check(t, m)
		}
	}
	for mode := range 5 {
		if ahead[mode] == 0 {
			t.Errorf("no Step from the mode %d", mode)
		}
	}
}

func TestP35_3Steps(t *testing.T) {
	r := rand.New(rand.NewSource(6))
	for range 300 {
		c := shapes()[r.Intn(14)]
		image := anyImage(r)
		s := anyState(r, t, c.Kind, image)
		m, p := made(t, c, s, image), newParts(t, c, s, image)
		for range 4 {
			many := r.Intn(30) - 3
			steps, cycles := 0, 0
			for steps < many {
				n, at := p.step()
				steps++
				cycles += n
				if !at {
					break
				}
			}
			if a, b := m.Steps(many); a != steps || b != cycles {
				t.Fatalf("Steps(%d): %d, %d, not %d, %d", many, a, b, steps, cycles)
			}
			p.check(t, m)
		}
	}
}

// Written out by hand.
func TestP35_3StepsKnown(t *testing.T) {
	program := map[int][]byte{0: {0x12, 0x3D, 0x86, 0x05, 0x13, 0x12}}
	for _, c := range []struct{ many, steps, cycles int }{
		{math.MinInt, 0, 0}, {-1, 0, 0}, {0, 0, 0}, {1, 1, 2}, {2, 2, 13}, {3, 3, 15}, {4, 4, 18}, {5, 4, 18}, {math.MaxInt, 4, 18},
	} {
		m := holding(t, 0, api.Regs{}, program)
		if steps, cycles := m.Steps(c.many); steps != c.steps || cycles != c.cycles {
			t.Errorf("Steps(%d): %d, %d, not %d, %d", c.many, steps, cycles, c.steps, c.cycles)
		}
	}
	m := holding(t, 0, api.Regs{}, program)
	m.Steps(4)
	for range 3 {
		if steps, cycles := m.Steps(100); steps != 1 || cycles != 1 {
			t.Errorf("Steps of one that waits: %d, %d", steps, cycles)
		}
	}
}

func TestP35_4Copy(t *testing.T) {
	r := rand.New(rand.NewSource(7))
	for range 120 {
		c := shapes()[r.Intn(14)]
		image := anyImage(r)
		s := anyState(r, t, c.Kind, image)
		one := made(t, c, s, image)
		two := one.Copy()
		p, q := newParts(t, c, s, image), newParts(t, c, s, image)
		p.check(t, one)
		q.check(t, two)
		if two == one || two.Ram() == one.Ram() || !machine.Same(one, two) {
			t.Fatal("a copy is the machine itself, or isn't as it is")
		}
		// Each of them goes its own way.
		for n := range 40 {
			for _, x := range []struct {
				m *machine.Machine
				p *parts
			}{{one, p}, {two, q}} {
				pins := anyPins(r, 3)[2]
				if n%5 == 0 {
					at, b := uint16(r.Intn(65536)), byte(r.Intn(256))
					x.m.Ram().Poke(at, b)
					x.p.ram.Poke(at, b)
				}
				if got, want := x.m.Cycle(pins), x.p.cpu.Cycle(pins, x.p.ram); got != want {
					t.Fatalf("%+v, not %+v", got, want)
				}
			}
		}
		p.check(t, one)
		q.check(t, two)
	}
}

func TestP35_4Same(t *testing.T) {
	same := func(a, b *machine.Machine, want bool) {
		t.Helper()
		if machine.Same(a, b) != want || machine.Same(b, a) != want {
			t.Errorf("Same: not %v", want)
		}
	}
	c := api.Config{Kind: 1, Rom: 0x8000}
	s := cpu.State{
		Mode: api.InRow, Row: api.RowIrq, Log: []byte{0x11, 0x22, 0x33, 0x0D},
		Regs:  api.Regs{A: 1, B: 2, DP: 3, CC: 4, X: 5, Y: 6, U: 7, S: 8, PC: 0x0C0D},
		Latch: edge.Latch{Armed: true, Level: true},
		Arb:   arbiter.State{Phase: arbiter.Gone, Count: 3},
	}
	image := []byte{1, 2, 3}
	m := made(t, c, s, image)
	same(m, m, true)
	same(m, made(t, c, s, image), true)
	same(m, made(t, c, s, []byte{1, 2, 3, 0}), true)
	for _, change := range []func(*cpu.State){
		func(s *cpu.State) { s.Row, s.Log = api.RowNmi, s.Log[:3] },
		func(s *cpu.State) { s.Row = api.RowNmi },
		func(s *cpu.State) { s.Log = s.Log[:3] },
		func(s *cpu.State) { s.Log = []byte{0x11, 0x23, 0x33, 0x0D} },
		func(s *cpu.State) { s.Mode, s.Row, s.Log = api.AtBoundary, 0, nil },
		func(s *cpu.State) { s.Mode, s.Row, s.Log = api.InSync, 0, nil },
		func(s *cpu.State) { s.Regs.A++ },
		func(s *cpu.State) { s.Regs.B++ },
		func(s *cpu.State) { s.Regs.DP++ },
		func(s *cpu.State) { s.Regs.CC++ },
		func(s *cpu.State) { s.Regs.X++ },
		func(s *cpu.State) { s.Regs.Y++ },
		func(s *cpu.State) { s.Regs.U++ },
		func(s *cpu.State) { s.Regs.S++ },
		func(s *cpu.State) { s.Regs.PC += 256 },
		func(s *cpu.State) { s.Latch.Level = false },
		func(s *cpu.State) { s.Latch.Armed = false },
		func(s *cpu.State) { s.Latch.Set = true },
		func(s *cpu.State) { s.Arb.Count++ },
		func(s *cpu.State) { s.Arb = arbiter.State{Phase: arbiter.Back} },
	} {
		other := s
		change(&other)
		same(m, made(t, c, other, image), false)
	}
	same(m, made(t, c, s, []byte{1, 2, 4}), false)
	same(m, made(t, c, s, nil), false)
	same(m, made(t, api.Config{Kind: 1, Rom: 0x8001}, s, image), false)
	// Two modes that have nothing else.
	at := func(kind, mode int) *machine.Machine {
		return made(t, api.Config{Kind: kind, Rom: 65536}, cpu.State{Mode: mode}, nil)
	}
	for _, a := range []int{api.AtBoundary, api.InSync, api.InCwai, api.InReset} {
		for _, b := range []int{api.AtBoundary, api.InSync, api.InCwai, api.InReset} {
			same(at(0, a), at(0, b), a == b)
			same(at(0, a), at(1, b), false)
		}
	}
}

// What follows: no Step takes more than 21 cycles, and one that long there is.
func TestP35_5Longest(t *testing.T) {
	m := holding(t, 1, api.Regs{S: 0x4000}, map[int][]byte{0: {0x10, 0x3F}})
	m.Cycle(api.Pins{Req: true})
	stepped(t, m, 21, true)
	r := rand.New(rand.NewSource(8))
	for range 150 {
		kind := r.Intn(2)
		image := anyImage(r)
		m := made(t, api.Config{Kind: kind, Rom: 65536}, anyState(r, t, kind, image), image)
		for range 200 {
			if n, _ := m.Step(); n < 1 || n > 21 {
				t.Fatalf("a Step of %d cycles", n)
			}
			m.Run(anyPins(r, r.Intn(4))...)
		}
	}
}

// Machines that are none end no call (P1 of DOC.md).
func TestP1SameOfNone(t *testing.T) {
	m := holding(t, 0, api.Regs{}, nil)
	for _, none := range []*machine.Machine{nil, {}} {
		if machine.Same(none, m) || machine.Same(m, none) {
			t.Error("a machine is the same as none")
		}
		machine.Same(none, none)
	}
}

// Two of them have nothing in common, and the same calls answer the same again (P2 of DOC.md).
func TestP2Alone(t *testing.T) {
	r := rand.New(rand.NewSource(9))
	for range 30 {
		c := shapes()[r.Intn(14)]
		image := anyImage(r)
		s := anyState(r, t, c.Kind, image)
		script := anyPins(r, 200)
		want := made(t, c, s, image).Run(script...)
		one, two := made(t, c, s, image), made(t, c, cpu.State{}, noise(r, 65536))
		for i, x := range script {
			two.Cycle(anyPins(r, 1)[0])
			machine.Same(one, two)
			one.Copy().Step()
			if got := one.Cycle(x); got != want[i] {
				t.Fatalf("the cycle %d: %+v, not %+v", i, got, want[i])
			}
		}
	}
}
