package watch_test

import (
	"math"
	"math/rand"
	"slices"
	"testing"

	"spinet/api"
	"spinet/cpu"
	"spinet/edge"
	"spinet/machine"
	"spinet/watch"
)

// made: a machine that must be right.
func made(t *testing.T, kind int, s cpu.State, image []byte) *machine.Machine {
	t.Helper()
	m, e := machine.Restore(api.Config{Kind: kind, Rom: 65536}, s, image)
	if m == nil || e != api.OK {
		t.Fatal(e)
	}
	return m
}

// adds: a point that must be right, of a number.
func adds(t *testing.T, w *watch.Watch, kind int, from, to uint16, want int) {
	t.Helper()
	if id, e := w.Add(kind, from, to); id != want || e != api.OK {
		t.Fatalf("Add(%d, %X, %X): %d, %v, not %d", kind, from, to, id, e, want)
	}
}

func TestP49_1Kinds(t *testing.T) {
	if watch.Reads != 0 || watch.Writes != 1 || watch.Comes != 2 {
		t.Error("other numbers of kinds")
	}
	for _, kind := range []int{math.MinInt, -1 << 32, -3, -2, -1, 3, 4, 5, 255, 256, 1 << 32, 1<<32 + 1, math.MaxInt} {
		var w watch.Watch
		for _, to := range []uint16{0, 5, 6, 65535} {
			if id, e := w.Add(kind, 5, to); id != 0 || e != api.ErrArg {
				t.Errorf("Add(%d, 5, %d): %d, %v", kind, to, id, e)
			}
		}
		if len(w.All()) != 0 {
			t.Errorf("of the kind %d: %v", kind, w.All())
		}
		adds(t, &w, watch.Reads, 0, 0, 1)
	}
}

func TestP49_1Ranges(t *testing.T) {
	var w watch.Watch
	var want []watch.Point
	for kind := range 3 {
		for _, l := range [][2]uint16{{1, 0}, {0x8000, 0x7FFF}, {65535, 0}, {65535, 65534}, {0x100, 0xFF}} {
			if id, e := w.Add(kind, l[0], l[1]); id != 0 || e != api.ErrRange {
				t.Errorf("Add(%d, %X, %X): %d, %v", kind, l[0], l[1], id, e)
			}
		}
		for _, l := range [][2]uint16{{0, 0}, {0, 65535}, {65535, 65535}, {0x7FFF, 0x8000}, {5, 6}, {5, 6}} {
			adds(t, &w, kind, l[0], l[1], len(want)+1)
			want = append(want, watch.Point{Id: len(want) + 1, Kind: kind, From: l[0], To: l[1]})
		}
	}
	if !slices.Equal(w.All(), want) {
		t.Errorf("%v, not %v", w.All(), want)
	}
}

func TestP49_1Drop(t *testing.T) {
	var w watch.Watch
	if w.Drop(0) || w.Drop(1) || w.Drop(-1) || len(w.All()) != 0 {
		t.Error("no points, and some")
	}
	for i := range 4 {
		adds(t, &w, watch.Writes, uint16(i), 9, i+1)
	}
	for _, id := range []int{0, -1, 5, math.MinInt, math.MaxInt, 1<<32 + 1} {
		if w.Drop(id) {
			t.Errorf("Drop(%d)", id)
		}
	}
	if !w.Drop(2) || w.Drop(2) {
		t.Error("it goes once")
	}
	if !w.Drop(4) {
		t.Error("the last one doesn't go")
	}
	// A number isn't used again, not even that of the last one.
	adds(t, &w, watch.Reads, 7, 8, 5)
	want := []watch.Point{{1, 1, 0, 9}, {3, 1, 2, 9}, {5, 0, 7, 8}}
	if !slices.Equal(w.All(), want) {
		t.Errorf("%v, not %v", w.All(), want)
	}
	for _, id := range []int{5, 1, 3} {
		if !w.Drop(id) {
			t.Errorf("Drop(%d)", id)
		}
	}
	if len(w.All()) != 0 {
		t.Errorf("%v", w.All())
	}
	adds(t, &w, watch.Comes, 0, 0, 6)
}

func TestP49_1NewMemory(t *testing.T) {
	var w watch.Watch
	for i := range 5 {
		adds(t, &w, watch.Reads, uint16(i), 9, i+1)
	}
	one := w.All()
	want := slices.Clone(one)
	w.Drop(2)
	adds(t, &w, watch.Comes, 1, 1, 6)
	if !slices.Equal(one, want) {
		t.Errorf("All changed: %v", one)
	}
	two := w.All()
	clear(two)
	_ = append(two[:1], watch.Point{})
	if want := []watch.Point{{1, 0, 0, 9}, {3, 0, 2, 9}, {4, 0, 3, 9}, {5, 0, 4, 9}, {6, 2, 1, 1}}; !slices.Equal(w.All(), want) {
		t.Errorf("%v, not %v", w.All(), want)
	}
}

// met: the numbers of such points at an address, by All.
func met(w *watch.Watch, kind int, at uint16) []int {
	var out []int
	for _, p := range w.All() {
		if p.Kind == kind && int(p.From) <= int(at) && int(at) <= int(p.To) {
			out = append(out, p.Id)
		}
	}
	slices.Sort(out)
	return out
}

func TestP49_2Known(t *testing.T) {
	var w watch.Watch
	adds(t, &w, watch.Writes, 5, 7, 1)
	adds(t, &w, watch.Reads, 6, 6, 2)
	adds(t, &w, watch.Comes, 7, 9, 3)
	adds(t, &w, watch.Reads, 0, 65535, 4)
	adds(t, &w, watch.Comes, 9, 9, 5)
	adds(t, &w, watch.Writes, 7, 7, 6)
	for _, c := range []struct {
		r    api.Rec
		want []int
	}{
		{api.Rec{Addr: 4, Mine: true}, nil},
		{api.Rec{Addr: 5, Mine: true}, []int{1}},
		{api.Rec{Addr: 6, Mine: true, Data: 9, BA: true, BS: true, LIC: true, AVMA: true, BUSY: true}, []int{1}},
		{api.Rec{Addr: 7, Mine: true}, []int{1, 6}},
		{api.Rec{Addr: 8, Mine: true}, nil},
		{api.Rec{Addr: 7}, nil},
		{api.Rec{Addr: 6, Read: true}, nil},
		{api.Rec{Addr: 0, Read: true, Mine: true}, []int{4}},
		{api.Rec{Addr: 5, Read: true, Mine: true}, []int{4}},
		{api.Rec{Addr: 6, Read: true, Mine: true, Data: 9, BA: true, BS: true, LIC: true, AVMA: true, BUSY: true}, []int{2, 4}},
		{api.Rec{Addr: 65535, Read: true, Mine: true}, []int{4}},
	} {
		if got := w.Cycle(c.r); !slices.Equal(got, c.want) {
			t.Errorf("%+v: %v, not %v", c.r, got, c.want)
		}
	}
	for pc, want := range map[uint16][]int{0: nil, 6: nil, 7: {3}, 8: {3}, 9: {3, 5}, 10: nil, 65535: nil} {
		if got := w.Boundary(pc); !slices.Equal(got, want) {
			t.Errorf("%d: %v, not %v", pc, got, want)
		}
	}
}

func TestP49_2Any(t *testing.T) {
	r := rand.New(rand.NewSource(492))
	for range 300 {
		w := anyWatch(r, r.Intn(20))
		for range 100 {
			x := api.Rec{Addr: place(r), Data: byte(r.Intn(256)), Read: r.Intn(2) > 0, BA: r.Intn(2) > 0, LIC: r.Intn(2) > 0, AVMA: r.Intn(2) > 0, Mine: r.Intn(4) > 0}
			var want []int
			switch {
			case x.Mine && x.Read:
				want = met(w, 0, x.Addr)
			case x.Mine:
				want = met(w, 1, x.Addr)
			}
			if got := w.Cycle(x); !slices.Equal(got, want) {
				t.Fatalf("%+v, %v: %v, not %v", x, w.All(), got, want)
			}
			if got, want := w.Boundary(x.Addr), met(w, 2, x.Addr); !slices.Equal(got, want) {
				t.Fatalf("%X, %v: %v, not %v", x.Addr, w.All(), got, want)
			}
		}
	}
}

// place: an address; the edges are many.
func place(r *rand.Rand) uint16 {
	return []uint16{0, 1, 0x7FFF, 0x8000, 0x8001, 0xFFFE, 0xFFFF, uint16(r.Intn(65536))}[r.Intn(8)]
}

// anyWatch: points of which some are gone.
func anyWatch(r *rand.Rand, many int) *watch.Watch {
	w := &watch.Watch{}
	for range many {
		from, to := place(r), place(r)
		w.Add(r.Intn(3), min(from, to), max(from, to))
		if r.Intn(4) == 0 {
			w.Drop(r.Intn(many) + 1)
		}
	}
	return w
}

// program: LDA of 5, STA at 0100, NOP, SYNC.
var program = []byte{0x86, 0x05, 0xB7, 0x01, 0x00, 0x12, 0x13}

func TestP49_2RunKnown(t *testing.T) {
	type point struct {
		kind     int
		from, to uint16
	}
	for name, c := range map[string]struct {
		points []point
		pins   int
		cycles int
		ids    []int
		mode   int
	}{
		"no pins":               {[]point{{0, 0, 65535}, {2, 0, 65535}}, 0, 0, nil, api.AtBoundary},
		"no points":             {nil, 7, 7, nil, api.AtBoundary},
		"none is met":           {[]point{{0, 0x100, 0x100}, {1, 0, 0xFF}, {2, 3, 4}}, 8, 8, nil, api.InRow},
		"a write":               {[]point{{1, 0x100, 0x100}}, 50, 7, []int{1}, api.AtBoundary},
		"pins end with it":      {[]point{{1, 0x100, 0x100}}, 7, 7, []int{1}, api.AtBoundary},
		"pins end ahead of it":  {[]point{{1, 0x100, 0x100}}, 6, 6, nil, api.InRow},
		"a read":                {[]point{{0, 3, 3}}, 50, 4, []int{1}, api.InRow},
		"the first cycle":       {[]point{{2, 0, 0}, {0, 0, 0}}, 50, 1, []int{2}, api.InRow},
		"a boundary":            {[]point{{2, 5, 5}}, 50, 7, []int{1}, api.AtBoundary},
		"where it begins isn't": {[]point{{2, 0, 0}}, 9, 9, nil, api.AtBoundary},
		"both, rising":          {[]point{{2, 2, 2}, {0, 1, 1}, {2, 0, 9}, {1, 1, 1}, {0, 1, 2}}, 50, 2, []int{1, 2, 3, 5}, api.AtBoundary},
		"both, the other way":   {[]point{{0, 1, 1}, {2, 2, 2}}, 50, 2, []int{1, 2}, api.AtBoundary},
		"behind SYNC it waits":  {[]point{{2, 7, 7}, {0, 0x9000, 0xFFFE}}, 30, 30, nil, api.InSync},
		"its wait reads at FFFF": {[]point{{0, 0xFFFF, 0xFFFF}, {2, 7, 7}}, 50,
			6, []int{1}, api.InRow},
	} {
		var w watch.Watch
		for _, p := range c.points {
			if _, e := w.Add(p.kind, p.from, p.to); e != api.OK {
				t.Fatal(e)
			}
		}
		m := made(t, 0, cpu.State{}, program)
		cycles, ids := w.Run(m, make([]api.Pins, c.pins)...)
		if cycles != c.cycles || !slices.Equal(ids, c.ids) || m.Mode() != c.mode {
			t.Errorf("%s: %d, %v, mode %d, not %d, %v, %d", name, cycles, ids, m.Mode(), c.cycles, c.ids, c.mode)
		}
		again := made(t, 0, cpu.State{}, program)
		again.Run(make([]api.Pins, c.cycles)...)
		if !machine.Same(m, again) {
			t.Errorf("%s: the machine isn't behind the cycle", name)
		}
	}
}

// Where the processor stands nothing is met, whatever is at the addresses.
func TestP49_2RunStands(t *testing.T) {
	here := cpu.State{Regs: api.Regs{PC: 5}}
	var w watch.Watch
	adds(t, &w, watch.Comes, 5, 5, 1)
	adds(t, &w, watch.Reads, 0xFFFF, 0xFFFF, 2)
	halted := slices.Repeat([]api.Pins{{Halt: true}}, 20)
	asked := slices.Repeat([]api.Pins{{Req: true}}, 16)
	for kind := range 2 {
		m := made(t, kind, here, program)
		if n, ids := w.Run(m, halted...); n != 20 || len(ids) != 0 || m.Mode() != api.AtBoundary {
			t.Errorf("halted, kind %d: %d, %v", kind, n, ids)
		}
		if n, ids := w.Run(m, asked...); n != 16 || len(ids) != 0 {
			t.Errorf("asked for the bus, kind %d: %d, %v", kind, n, ids)
		}
	}
	// Behind RESET its row comes to a boundary; what RESET reads is met, too.
	m := made(t, 0, cpu.State{Regs: api.Regs{PC: 9}}, program)
	m.Ram().Load(0xFFFE, 0, 5)
	adds(t, &w, watch.Reads, 0xFFFE, 0xFFFE, 3)
	if n, ids := w.Run(m, api.Pins{Reset: true}); n != 1 || !slices.Equal(ids, []int{3}) || m.Mode() != api.InReset {
		t.Errorf("%d, %v", n, ids)
	}
	w.Drop(2)
	w.Drop(3)
	if n, ids := w.Run(m, make([]api.Pins, 9)...); n != 3 || !slices.Equal(ids, []int{1}) || m.Regs().PC != 5 {
		t.Errorf("%d, %v", n, ids)
	}
}

// What ends a wait of SYNC comes to a boundary.
func TestP49_2RunWakes(t *testing.T) {
	m := made(t, 1, cpu.State{Mode: api.InSync, Regs: api.Regs{PC: 7}, Latch: edge.Latch{Armed: true}}, program)
	var w watch.Watch
	adds(t, &w, watch.Comes, 7, 7, 1)
	if n, ids := w.Run(m, api.Pins{}, api.Pins{}, api.Pins{Irq: true}, api.Pins{}); n != 3 || !slices.Equal(ids, []int{1}) {
		t.Errorf("%d, %v", n, ids)
	}
}

// run: Run, by a machine's cycles.
func run(w *watch.Watch, m *machine.Machine, p []api.Pins) (int, []int) {
	for i, x := range p {
		r := m.Cycle(x)
		var ids []int
		if r.Mine {
			kind := watch.Writes
			if r.Read {
				kind = watch.Reads
			}
			ids = met(w, kind, r.Addr)
			if m.Mode() == api.AtBoundary {
				ids = append(ids, met(w, watch.Comes, m.Regs().PC)...)
			}
		}
		if len(ids) > 0 {
			slices.Sort(ids)
			return i + 1, ids
		}
	}
	return len(p), nil
}

func TestP49_2RunAny(t *testing.T) {
	r := rand.New(rand.NewSource(4922))
	for range 150 {
		image := make([]byte, 65536)
		r.Read(image)
		m := made(t, r.Intn(2), cpu.State{Regs: api.Regs{CC: byte(r.Intn(256)), S: uint16(r.Intn(65536)), X: uint16(r.Intn(65536)), PC: uint16(r.Intn(65536))}}, image)
		other := m.Copy()
		for range 10 {
			var w watch.Watch
			for range r.Intn(6) {
				from := r.Intn(65536)
				w.Add(r.Intn(3), uint16(from), uint16(min(65535, from+r.Intn(600))))
			}
			pins := make([]api.Pins, r.Intn(150))
			for i := range pins {
				pins[i] = api.Pins{Nmi: r.Intn(20) == 0, Irq: r.Intn(9) == 0, Firq: r.Intn(30) == 0, Halt: r.Intn(5) == 0, Req: r.Intn(5) == 0, Reset: r.Intn(90) == 0}
			}
			kept := slices.Clone(pins)
			points := w.All()
			n, ids := w.Run(m, pins...)
			want, all := run(&w, other, pins)
			if n != want || !slices.Equal(ids, all) || !machine.Same(m, other) {
				t.Fatalf("%d, %v, not %d, %v", n, ids, want, all)
			}
			if !slices.Equal(pins, kept) || !slices.Equal(points, w.All()) {
				t.Fatal("what came in is another one, or the points are")
			}
		}
	}
}

func TestP1Any(t *testing.T) {
	var w watch.Watch
	adds(t, &w, watch.Reads, 0, 65535, 1)
	for _, m := range []*machine.Machine{nil, {}} {
		if n, ids := w.Run(m, api.Pins{}, api.Pins{}); n != 0 || len(ids) != 0 {
			t.Errorf("no machine: %d, %v", n, ids)
		}
	}
	var zero watch.Watch
	if len(zero.All()) != 0 || len(zero.Cycle(api.Rec{Mine: true})) != 0 || len(zero.Boundary(0)) != 0 {
		t.Error("the zero Watch has points")
	}
	if n, ids := zero.Run(made(t, 0, cpu.State{}, nil)); n != 0 || len(ids) != 0 {
		t.Errorf("%d, %v", n, ids)
	}
}

// Looking changes no point, and what is answered may be changed.
func TestP2Again(t *testing.T) {
	var w watch.Watch
	adds(t, &w, watch.Reads, 5, 5, 1)
	adds(t, &w, watch.Comes, 5, 5, 2)
	adds(t, &w, watch.Reads, 0, 9, 3)
	for range 3 {
		ids, comes := w.Cycle(api.Rec{Addr: 5, Read: true, Mine: true}), w.Boundary(5)
		if !slices.Equal(ids, []int{1, 3}) || !slices.Equal(comes, []int{2}) {
			t.Errorf("%v, %v", ids, comes)
		}
		clear(ids)
		clear(comes)
	}
}
