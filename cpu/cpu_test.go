package cpu_test

import (
	"math"
	"math/rand"
	"reflect"
	"slices"
	"strings"
	"testing"

	"spinet/api"
	"spinet/arbiter"
	"spinet/core"
	"spinet/cpu"
	"spinet/edge"
	"spinet/pins"
	"spinet/ram"
	"spinet/record"
)

// holding: memory of bytes 0, and some at addresses.
func holding(t *testing.T, at map[uint16][]byte) *ram.Ram {
	t.Helper()
	m, e := ram.New(nil, 65536)
	if e != api.OK {
		t.Fatal(e)
	}
	for from, l := range at {
		for i, b := range l {
			m.Poke(from+uint16(i), b)
		}
	}
	return m
}

// script: the pins of a text.
func script(t *testing.T, s string) []api.Pins {
	t.Helper()
	l, e := pins.Parse(s)
	if e != api.OK {
		t.Fatalf("the script %q: %v", s, e)
	}
	return l
}

// restored: a processor in a state that must be right.
func restored(t *testing.T, kind int, s cpu.State) *cpu.Cpu {
	t.Helper()
	c, e := cpu.Restore(kind, s)
	if c == nil || e != api.OK {
		t.Fatalf("Restore of %+v, of the kind %d: %v", s, kind, e)
	}
	return c
}

// play: what is told of a script's cycles, a line each.
func play(t *testing.T, c *cpu.Cpu, m cpu.Memory, s string) []string {
	t.Helper()
	var out []string
	for _, p := range script(t, s) {
		out = append(out, record.Text(c.Cycle(p, m)))
	}
	return out
}

// lines: a text's lines, without what is ahead of them.
func lines(s string) []string {
	var out []string
	for l := range strings.Lines(s) {
		if l = strings.TrimSpace(l); l != "" {
			out = append(out, l)
		}
	}
	return out
}

// equal: are two states alike? No bytes are as none.
func equal(a, b cpu.State) bool {
	if !slices.Equal(a.Log, b.Log) {
		return false
	}
	a.Log, b.Log = nil, nil
	return reflect.DeepEqual(a, b)
}

// numbers: those around kinds, modes, rows and counts, and far ones.
func numbers() []int {
	out := []int{math.MinInt, math.MinInt + 1, -1 << 32, 1 << 32, 1<<32 + 1, 255, 256, 257, math.MaxInt}
	for n := -3; n < 18; n++ {
		out = append(out, n)
	}
	return out
}

func TestP34_2New(t *testing.T) {
	for _, kind := range numbers() {
		c, e := cpu.New(kind)
		if kind != 0 && kind != 1 {
			if c != nil || e != api.ErrArg {
				t.Errorf("New(%d): %v, %v", kind, c, e)
			}
			continue
		}
		if c == nil || e != api.OK {
			t.Fatalf("New(%d): %v", kind, e)
		}
		if c.Kind() != kind || c.Mode() != api.AtBoundary || c.Regs() != (api.Regs{}) || !equal(c.State(), cpu.State{}) {
			t.Errorf("New(%d): %d, %d, %+v, %+v", kind, c.Kind(), c.Mode(), c.Regs(), c.State())
		}
	}
}

// While a row goes on, the registers are as the last one left them; its bytes are told as they come.
func TestP34_2WithinRow(t *testing.T) {
	m := holding(t, map[uint16][]byte{0: {0x86, 0x05, 0x97, 0x80, 0x4C}, 0xFFFF: {0xEE}})
	c, _ := cpu.New(1)
	want := []struct {
		mode int
		log  []byte
		regs api.Regs
	}{
		{api.InRow, []byte{0x86}, api.Regs{}},
		{api.AtBoundary, nil, api.Regs{A: 5, PC: 2}},
		{api.InRow, []byte{0x97}, api.Regs{A: 5, PC: 2}},
		{api.InRow, []byte{0x97, 0x80}, api.Regs{A: 5, PC: 2}},
		{api.InRow, []byte{0x97, 0x80, 0xEE}, api.Regs{A: 5, PC: 2}},
		{api.AtBoundary, nil, api.Regs{A: 5, PC: 4}},
		{api.InRow, []byte{0x4C}, api.Regs{A: 5, PC: 4}},
		{api.AtBoundary, nil, api.Regs{A: 6, PC: 5}},
	}
	for i, w := range want {
		c.Cycle(api.Pins{}, m)
		state := cpu.State{Mode: w.mode, Row: api.RowInst, Log: w.log, Regs: w.regs}
		for range 2 {
			if c.Mode() != w.mode || c.Regs() != w.regs || c.Kind() != 1 || !equal(c.State(), state) {
				t.Fatalf("behind the cycle %d: %d, %+v, %+v, not %+v", i, c.Mode(), c.Regs(), c.State(), state)
			}
		}
	}
}

// A state's bytes are new memory, and those that Restore was given aren't kept, nor changed.
func TestP34_2Bytes(t *testing.T) {
	m := holding(t, map[uint16][]byte{2: {0x34}, 0x1234: {0x77}})
	given := []byte{0xB6, 0x12, 0x99}[:2]
	c := restored(t, 0, cpu.State{Mode: api.InRow, Log: given})
	if clear(given); !slices.Equal(c.State().Log, []byte{0xB6, 0x12}) {
		t.Errorf("%X", c.State().Log)
	}
	play(t, c, m, ".")
	if !slices.Equal(given[:3], []byte{0, 0, 0x99}) {
		t.Errorf("what Restore was given is %X", given[:3])
	}
	one, two := c.State(), c.State()
	clear(one.Log)
	want := []byte{0xB6, 0x12, 0x34}
	if !slices.Equal(two.Log, want) || !slices.Equal(c.State().Log, want) {
		t.Errorf("%X, %X, not %X", two.Log, c.State().Log, want)
	}
	play(t, c, m, ".*4")
	if !slices.Equal(two.Log, want) {
		t.Errorf("a state changed when its processor went on: %X, not %X", two.Log, want)
	}
}

// rightArb: the states of layer 30's that there may be, written by hand.
func rightArb(kind int, a arbiter.State) bool {
	if kind == 0 {
		return a == arbiter.State{}
	}
	switch a.Phase {
	case 0, 2:
		return a.Count == 0
	case 1:
		return a.Count >= 0 && a.Count <= 15
	}
	return false
}

func TestP34_3Kinds(t *testing.T) {
	for _, kind := range numbers() {
		for _, mode := range numbers() {
			s := cpu.State{Mode: mode, Regs: api.Regs{A: 1, PC: 2}}
			ok := (kind == 0 || kind == 1) && mode >= 0 && mode <= 4
			if mode == api.InRow {
				s.Log = []byte{0x86}
			}
			c, e := cpu.Restore(kind, s)
			if ok && (e != api.OK || c == nil || c.Kind() != kind || c.Mode() != mode || !equal(c.State(), s)) || !ok && (e != api.ErrArg || c != nil) {
				t.Errorf("Restore of %+v, of the kind %d: %v", s, kind, e)
			}
		}
	}
}

func TestP34_3Arbiter(t *testing.T) {
	for kind := range 2 {
		for _, phase := range numbers() {
			for _, count := range numbers() {
				s := cpu.State{Mode: api.InReset, Arb: arbiter.State{Phase: phase, Count: count}}
				c, e := cpu.Restore(kind, s)
				ok := rightArb(kind, s.Arb)
				if ok && (e != api.OK || c == nil || !equal(c.State(), s)) || !ok && (e != api.ErrArg || c != nil) {
					t.Errorf("Restore of %+v, of the kind %d: %v", s, kind, e)
				}
			}
		}
	}
}

func TestP34_3Latch(t *testing.T) {
	for n := range 8 {
		l := edge.Latch{Level: n&1 > 0, Armed: n&2 > 0, Set: n&4 > 0}
		for mode := range 5 {
			s := cpu.State{Mode: mode, Latch: l}
			if mode == api.InRow {
				s.Row, s.Log = api.RowFirq, []byte{7}
			}
			c, e := cpu.Restore(n%2, s)
			ok := l.Armed || !l.Set
			if ok && (e != api.OK || c == nil || !equal(c.State(), s)) || !ok && (e != api.ErrArg || c != nil) {
				t.Errorf("Restore of %+v: %v", s, e)
			}
		}
	}
}

func TestP34_3RowAndLog(t *testing.T) {
	logs := [][]byte{nil, {}, {0x12}, {0x86}, {0, 0}, make([]byte, 30)}
	for _, mode := range numbers() {
		for _, row := range numbers() {
			for _, log := range logs {
				s := cpu.State{Mode: mode, Row: row, Log: log}
				c, e := cpu.Restore(0, s)
				var want api.Errno
				switch {
				case mode < 0 || mode > 4,
					mode != api.InRow && (row != 0 || len(log) > 0),
					mode == api.InRow && (row < 0 || row > 7),
					mode == api.InRow && len(log) == 0 && row < 5:
					want = api.ErrArg
				case mode == api.InRow && !goes(row, api.Regs{}, log):
					want = api.ErrForm
				}
				if e != want || (c == nil) != (want != api.OK) || c != nil && !equal(c.State(), s) {
					t.Errorf("Restore of %+v: %v, not %v", s, e, want)
				}
			}
		}
	}
}

// goes: has a row so many cycles and one more, that write these bytes?
func goes(row int, regs api.Regs, log []byte) bool {
	c := core.New(regs)
	c.Begin(row)
	for _, b := range log {
		bus, ok := c.Want()
		if !ok || !bus.Read && bus.Data != b {
			return false
		}
		c.Tick(b)
	}
	return c.Active()
}

// All beginnings of rows are taken, their ends and what is longer aren't, nor those that write other bytes.
func TestP34_3Bytes(t *testing.T) {
	r := rand.New(rand.NewSource(1))
	for n := range 4000 {
		regs, row := anyRegs(r), n%8
		c := core.New(regs)
		c.Begin(row)
		var log []byte
		var wrote []bool
		for c.Active() {
			bus, _ := c.Want()
			b := bus.Data
			if bus.Read {
				b = anyCode(r)
			}
			log, wrote = append(log, b), append(wrote, !bus.Read)
			c.Tick(b)
		}
		try := func(l []byte, want api.Errno) {
			t.Helper()
			s := cpu.State{Mode: api.InRow, Row: row, Log: l, Regs: regs}
			kept := slices.Clone(l)
			got, e := cpu.Restore(n%2, s)
			if e != want || (got == nil) != (want != api.OK) || !slices.Equal(l, kept) {
				t.Fatalf("Restore of %+v: %v, not %v", s, e, want)
			}
			if got != nil && (!equal(got.State(), s) || got.Regs() != regs) {
				t.Fatalf("Restore of %+v: %+v", s, got.State())
			}
		}
		for many := range log {
			if many > 0 || row >= 5 {
				try(log[:many], api.OK)
			}
			if many > 0 && wrote[many-1] {
				other := slices.Clone(log[:many])
				other[many-1] += byte(1 + r.Intn(255))
				try(other, api.ErrForm)
			}
		}
		try(log, api.ErrForm)
		try(append(slices.Clone(log), 0), api.ErrForm)
		try(append(slices.Clone(log), log...), api.ErrForm)
		try(append(slices.Clone(log), make([]byte, 1000)...), api.ErrForm)
	}
}

// Where the state is none, its bytes don't count.
func TestP34_3Order(t *testing.T) {
	long := make([]byte, 100)
	form := cpu.State{Mode: api.InRow, Log: long}
	if c, e := cpu.Restore(1, form); c != nil || e != api.ErrForm {
		t.Errorf("%v", e)
	}
	for _, change := range []func(*cpu.State){
		func(s *cpu.State) { s.Mode = 5 },
		func(s *cpu.State) { s.Mode = -1 },
		func(s *cpu.State) { s.Mode = api.AtBoundary },
		func(s *cpu.State) { s.Row = 8 },
		func(s *cpu.State) { s.Row = -1 },
		func(s *cpu.State) { s.Latch.Set = true },
		func(s *cpu.State) { s.Arb.Phase = 3 },
		func(s *cpu.State) { s.Arb = arbiter.State{Phase: 1, Count: 16} },
	} {
		s := form
		change(&s)
		if c, e := cpu.Restore(1, s); c != nil || e != api.ErrArg {
			t.Errorf("Restore of %+v: %v", s, e)
		}
	}
	if c, e := cpu.Restore(2, form); c != nil || e != api.ErrArg {
		t.Errorf("of the kind 2: %v", e)
	}
}

// faulty is memory that panics.
type faulty struct{}

func (faulty) Read(uint16) byte        { panic("no memory") }
func (faulty) Write(uint16, byte) bool { panic("no memory") }

// No memory, or one that panics, is handed in: each cycle ends nevertheless (P1 of DOC.md).
func TestP1NoMemory(t *testing.T) {
	r := rand.New(rand.NewSource(2))
	for _, m := range []cpu.Memory{nil, (*ram.Ram)(nil), faulty{}} {
		for n := range 400 {
			c := restored(t, n%2, cpu.State{Regs: anyRegs(r)})
			for range 200 {
				c.Cycle(anyPins(r), m)
			}
		}
	}
}
