package stall_test

import (
	"math"
	"math/rand"
	"slices"
	"testing"

	"spinet/api"
	"spinet/arbiter"
	"spinet/cpu"
	"spinet/edge"
	"spinet/machine"
	"spinet/pins"
	"spinet/stall"
)

// made: a machine that must be right.
func made(t *testing.T, kind int, s cpu.State, image []byte) *machine.Machine {
	t.Helper()
	m, e := machine.Restore(api.Config{Kind: kind, Rom: 65536}, s, image)
	if m == nil || e != api.OK {
		t.Fatal(e)
	}
	return m
}

// script: the pins of a text.
func script(t *testing.T, s string) []api.Pins {
	t.Helper()
	l, e := pins.Parse(s)
	if e != api.OK {
		t.Fatalf("the script %q: %v", s, e)
	}
	return l
}

// nops: a machine whose memory is NOPs, of two cycles each.
func nops(t *testing.T, kind int, s cpu.State) *machine.Machine {
	t.Helper()
	return made(t, kind, s, slices.Repeat([]byte{0x12}, 65536))
}

// one is what a script must become.
type one struct {
	name   string
	kind   int
	state  cpu.State
	script string
	halt   bool
	stalls []stall.Stall
	want   string
}

func (c one) check(t *testing.T) {
	t.Helper()
	m := nops(t, c.kind, c.state)
	before := m.Copy()
	given, stalls := script(t, c.script), slices.Clone(c.stalls)
	got := stall.Insert(m, given, c.halt, stalls...)
	// Cycles that are alike side by side have many texts, but one that counts.
	if want := pins.Text(script(t, c.want)...); pins.Text(got...) != want {
		t.Errorf("%s: %s, not %s", c.name, pins.Text(got...), want)
	}
	if !machine.Same(m, before) || !slices.Equal(given, script(t, c.script)) || !slices.Equal(stalls, c.stalls) {
		t.Errorf("%s: what came in is another one", c.name)
	}
	clear(got)
	if !slices.Equal(given, script(t, c.script)) {
		t.Errorf("%s: what is answered is what came in", c.name)
	}
}

func TestP52_1Tsc(t *testing.T) {
	level := cpu.State{Latch: edge.Latch{Level: true}}
	for _, c := range []one{
		{name: "no stalls", script: ". N RFI HQ .", want: ". N RFI HQ ."},
		{name: "no script", stalls: []stall.Stall{{At: 0, Many: 5}}},
		{name: "ahead of the first one", script: ".*4", stalls: []stall.Stall{{At: 0, Many: 2}}, want: "Q*2 .*4"},
		{name: "within a row", script: "F I*3", stalls: []stall.Stall{{At: 1, Many: 1}}, want: "F Q I*3"},
		{name: "ahead of the last one", script: ".*3 I", stalls: []stall.Stall{{At: 3, Many: 3}}, want: ".*3 Q*3 I"},
		{name: "places that aren't there", script: ".*3", stalls: []stall.Stall{{At: -1, Many: 3}, {At: 3, Many: 3}, {At: math.MinInt, Many: 1}, {At: math.MaxInt, Many: 1}, {At: 1 << 32, Many: 1}}, want: ".*3"},
		{name: "of more than one place", script: "F I R", stalls: []stall.Stall{{At: 2, Many: 1}, {At: 0, Many: 2}}, want: "Q*2 F I Q R"},
		{name: "of each place", script: "F I R", stalls: []stall.Stall{{At: 0, Many: 1}, {At: 1, Many: 1}, {At: 2, Many: 1}}, want: "Q F Q I Q R"},
		{name: "sums", script: "F I", stalls: []stall.Stall{{At: 1, Many: 2}, {At: 0, Many: 1}, {At: 1, Many: 3}}, want: "Q F Q*5 I"},
		{name: "none", script: "F I", stalls: []stall.Stall{{At: 1}, {At: 0, Many: -1}, {At: 0, Many: math.MinInt}}, want: "F I"},
		{name: "below 0 counts as 0", script: "F I", stalls: []stall.Stall{{At: 1, Many: -9}, {At: 1, Many: 3}, {At: 1, Many: -1}}, want: "F Q*3 I"},
		{name: "the most", script: "F I", stalls: []stall.Stall{{At: 1, Many: 64}}, want: "F Q*64 I"},
		{name: "one more", script: "F I", stalls: []stall.Stall{{At: 1, Many: 65}}, want: "F Q*64 I"},
		{name: "one less", script: "F I", stalls: []stall.Stall{{At: 1, Many: 63}}, want: "F Q*63 I"},
		{name: "many more", script: "F I", stalls: []stall.Stall{{At: 1, Many: math.MaxInt}, {At: 1, Many: math.MaxInt}, {At: 0, Many: 40}, {At: 0, Many: 40}}, want: "Q*64 F Q*64 I"},
		{name: "each is cut by itself", script: "F", stalls: []stall.Stall{{At: 0, Many: 1000}, {At: 0, Many: -1000}}, want: "Q*64 F"},
		{name: "NMI as it was", script: "N . N*2 .", stalls: []stall.Stall{{At: 0, Many: 1}, {At: 1, Many: 1}, {At: 2, Many: 1}, {At: 3, Many: 2}, {At: 4, Many: 1}}, want: "Q N NQ . Q N NQ*2 N NQ ."},
		{name: "NMI was active", state: level, script: ". N", stalls: []stall.Stall{{At: 0, Many: 2}, {At: 1, Many: 1}}, want: "NQ*2 . Q N"},
		{name: "only NMI stays", script: "RNFIHQ .", stalls: []stall.Stall{{At: 1, Many: 1}}, want: "RNFIHQ NQ ."},
		{name: "ahead of one that asks, too", script: "Q Q", stalls: []stall.Stall{{At: 0, Many: 1}, {At: 1, Many: 1}}, want: "Q*4"},
		{name: "more than 16", script: ".", stalls: []stall.Stall{{At: 0, Many: 20}}, want: "Q*20 ."},
	} {
		c.check(t)
	}
}

func TestP52_1Dma(t *testing.T) {
	level := cpu.State{Latch: edge.Latch{Level: true}}
	gone := cpu.State{Arb: arbiter.State{Phase: arbiter.Gone}}
	back := cpu.State{Arb: arbiter.State{Phase: arbiter.Back}}
	for _, c := range []one{
		{name: "no stalls", script: ". N RFI HQ .", want: ". N RFI HQ ."},
		{name: "one", script: "F", stalls: []stall.Stall{{At: 0, Many: 1}}, want: "Q . F"},
		{name: "none", script: "F", stalls: []stall.Stall{{At: 0, Many: 0}, {At: 0, Many: -7}}, want: "F"},
		{name: "15", script: "F", stalls: []stall.Stall{{At: 0, Many: 15}}, want: "Q*15 . F"},
		{name: "16", script: "F", stalls: []stall.Stall{{At: 0, Many: 16}}, want: "Q*16 . F"},
		{name: "17", script: "F", stalls: []stall.Stall{{At: 0, Many: 17}}, want: "Q*16 . F"},
		{name: "64", script: "F I", stalls: []stall.Stall{{At: 0, Many: 64}, {At: 1, Many: 20}, {At: 1, Many: 44}}, want: "Q*16 . F Q*16 . I"},
		{name: "NMI as it was", script: "N . N", stalls: []stall.Stall{{At: 0, Many: 2}, {At: 1, Many: 2}, {At: 2, Many: 1}}, want: "Q*2 . N NQ*2 N . Q . N"},
		{name: "NMI was active", state: level, script: "F", stalls: []stall.Stall{{At: 0, Many: 1}}, want: "NQ N F"},
		{name: "ahead of one that asks", script: "F Q I*4", stalls: []stall.Stall{{At: 1, Many: 5}}, want: "F Q I*4"},
		{name: "ahead of one that asks, with RESET", script: "RQ", stalls: []stall.Stall{{At: 0, Many: 5}}, want: "RQ"},
		{name: "the bus is gone", script: "Q .*4", stalls: []stall.Stall{{At: 1, Many: 5}}, want: "Q .*4"},
		{name: "it comes back", script: "Q F I H", stalls: []stall.Stall{{At: 2, Many: 5}}, want: "Q F I H"},
		{name: "it is back", script: "Q F I H", stalls: []stall.Stall{{At: 3, Many: 1}}, want: "Q F I Q . H"},
		{name: "it was gone", state: gone, script: "F I", stalls: []stall.Stall{{At: 0, Many: 5}, {At: 1, Many: 5}}, want: "F I"},
		{name: "it was on its way", state: back, script: "F I", stalls: []stall.Stall{{At: 0, Many: 5}, {At: 1, Many: 1}}, want: "F Q . I"},
		{name: "RESET brings it back", script: "Q R I", stalls: []stall.Stall{{At: 1, Many: 5}, {At: 2, Many: 2}}, want: "Q R Q*2 . I"},
		{name: "places that aren't there", script: ".*3", stalls: []stall.Stall{{At: -1, Many: 3}, {At: 3, Many: 3}}, want: ".*3"},
	} {
		c.kind = 1
		c.check(t)
	}
}

func TestP52_1Halt(t *testing.T) {
	level := cpu.State{Latch: edge.Latch{Level: true}}
	for kind := range 2 {
		for _, c := range []one{
			{name: "at a boundary", script: "F I", stalls: []stall.Stall{{At: 0, Many: 3}}, want: "H*3 F I"},
			{name: "none", script: "F I", stalls: []stall.Stall{{At: 0, Many: 0}, {At: 0, Many: -1}}, want: "F I"},
			{name: "within a row", script: "F I H", stalls: []stall.Stall{{At: 1, Many: 3}}, want: "F I H"},
			{name: "behind it", script: "I*21", stalls: []stall.Stall{{At: 19, Many: 1}, {At: 20, Many: 1}}, want: "I*19 H I*2"},
			{name: "each boundary", script: ".*5", stalls: []stall.Stall{{At: 0, Many: 1}, {At: 1, Many: 1}, {At: 2, Many: 1}, {At: 3, Many: 1}, {At: 4, Many: 1}}, want: "H .*2 H .*2 H ."},
			{name: "the most", script: "F", stalls: []stall.Stall{{At: 0, Many: 30}, {At: 0, Many: 99}}, want: "H*64 F"},
			{name: "NMI as it was", script: "N*2 N .", stalls: []stall.Stall{{At: 0, Many: 1}, {At: 2, Many: 2}}, want: "H N*2 NH*2 N ."},
			{name: "NMI was active", state: level, script: ".", stalls: []stall.Stall{{At: 0, Many: 1}}, want: "NH ."},
			{name: "RESET is no boundary", script: "R .*4", stalls: []stall.Stall{{At: 1, Many: 1}, {At: 2, Many: 1}, {At: 3, Many: 1}, {At: 4, Many: 1}}, want: "R .*3 H ."},
			{name: "a wait is none", state: cpu.State{Mode: api.InSync, Regs: api.Regs{CC: api.I}}, script: ". I .", stalls: []stall.Stall{{At: 0, Many: 1}, {At: 1, Many: 1}, {At: 2, Many: 1}}, want: ". I H ."},
			{name: "nor is another one", state: cpu.State{Mode: api.InCwai}, script: ". .", stalls: []stall.Stall{{At: 0, Many: 1}, {At: 1, Many: 1}}, want: ".*2"},
			{name: "ahead of HALT", script: "H*2 .", stalls: []stall.Stall{{At: 0, Many: 1}, {At: 1, Many: 1}, {At: 2, Many: 1}}, want: "H*5 ."},
		} {
			c.kind, c.halt = kind, true
			c.check(t)
		}
	}
	one{name: "ahead of one that asks", kind: 1, script: "Q", halt: true, stalls: []stall.Stall{{At: 0, Many: 2}}, want: "H*2 Q"}.check(t)
	one{name: "the bus is gone", kind: 1, script: "Q .*2", halt: true, stalls: []stall.Stall{{At: 1, Many: 2}, {At: 2, Many: 2}}, want: "Q .*2"}.check(t)
	one{name: "granted at a boundary", kind: 0, script: "Q .", halt: true, stalls: []stall.Stall{{At: 1, Many: 2}}, want: "Q H*2 ."}.check(t)
}

// insert: Insert, with a machine for each place that runs the script up to there.
func insert(m *machine.Machine, script []api.Pins, halt bool, l []stall.Stall) []api.Pins {
	var out []api.Pins
	for i, p := range script {
		n := 0
		for _, s := range l {
			if s.At == i && s.Many > 0 {
				n = min(64, n+min(64, s.Many))
			}
		}
		here := m.Copy()
		here.Run(script[:i]...)
		last := here.State().Latch.Level
		for k := range n {
			x := api.Pins{Nmi: last}
			switch {
			case here.State().Arb != arbiter.State{} || halt && here.Mode() != api.AtBoundary:
				continue
			case halt:
				x.Halt = true
			case m.Config().Kind == 1 && (p.Req || k >= 16):
				continue
			default:
				x.Req = true
			}
			out = append(out, x)
			if x.Req && m.Config().Kind == 1 && (k == 15 || k == n-1) {
				out = append(out, api.Pins{Nmi: last})
			}
		}
		out = append(out, p)
	}
	return out
}

// anyMachine: a machine of any bytes, wherever it came.
func anyMachine(t *testing.T, r *rand.Rand) *machine.Machine {
	image := make([]byte, 65536)
	r.Read(image)
	for range 6000 {
		copy(image[r.Intn(65530):], [][]byte{{0x13}, {0x3C, 0xAF}, {0x10, 0xCE, 0x40, 0}, {0x12, 0x12, 0x12}}[r.Intn(4)])
	}
	w := func() uint16 { return uint16(r.Intn(65536)) }
	regs := api.Regs{A: byte(r.Intn(256)), B: byte(r.Intn(256)), CC: byte(r.Intn(256)), X: w(), Y: w(), U: w(), S: w(), PC: w()}
	m := made(t, r.Intn(2), cpu.State{Regs: regs, Latch: edge.Latch{Armed: r.Intn(2) > 0, Level: r.Intn(2) > 0}}, image)
	m.Run(anyScript(r, r.Intn(60))...)
	return m
}

// anyScript: pins of so many cycles.
func anyScript(r *rand.Rand, many int) []api.Pins {
	out := make([]api.Pins, many)
	for i := range out {
		on := func(one int) bool { return r.Intn(one) == 0 }
		out[i] = api.Pins{Reset: on(80), Nmi: on(6), Firq: on(20), Irq: on(12), Halt: on(9), Req: on(9)}
	}
	return out
}

func anyStalls(r *rand.Rand, long int) []stall.Stall {
	out := make([]stall.Stall, r.Intn(12))
	for i := range out {
		out[i] = stall.Stall{At: r.Intn(long+3) - 1, Many: []int{-3, 0, 1, 2, 15, 16, 17, 40, 64, 65, r.Intn(70)}[r.Intn(11)]}
	}
	return out
}

// own: the records that are the processor's own.
func own(l []api.Rec) []api.Rec {
	return slices.DeleteFunc(l, func(r api.Rec) bool { return !r.Mine })
}

func TestP52_1P52_3Any(t *testing.T) {
	r := rand.New(rand.NewSource(5213))
	for range 250 {
		m := anyMachine(t, r)
		before := m.Copy()
		script := anyScript(r, r.Intn(80))
		halt := r.Intn(2) > 0
		stalls := anyStalls(r, len(script))
		kept := slices.Clone(script)
		got := stall.Insert(m, script, halt, stalls...)
		if want := insert(m, script, halt, stalls); !slices.Equal(got, want) {
			t.Fatalf("%s, %v, %v: %s, not %s", pins.Text(script...), halt, stalls, pins.Text(got...), pins.Text(want...))
		}
		if !machine.Same(m, before) || !slices.Equal(script, kept) {
			t.Fatal("what came in is another one")
		}
		alone, stood := m.Copy(), m.Copy()
		a, b := alone.Run(script...), stood.Run(got...)
		if !slices.Equal(own(a), own(b)) || !machine.Same(alone, stood) {
			t.Fatalf("%s, %v, %v: standing changes something: %s", pins.Text(script...), halt, stalls, pins.Text(got...))
		}
	}
}

func TestP52_2Known(t *testing.T) {
	for kind, all := range []map[string]int{
		{"": 0, ".*9": 0, "Q": 1, "Q*9": 9, ". Q . H": 2, "H*3 . H . H": 3, "HQ*3": 3, "R*3": 0, "RQ": 0, "I N F": 0},
		{"": 0, ".*9": 0, "Q": 1, "Q .*9": 2, "Q*17": 17, "Q*18": 17, "Q*19": 18, "H*3 . H . H": 3, "Q R": 1, "R*3": 0},
	} {
		for s, want := range all {
			m := nops(t, kind, cpu.State{})
			if got := stall.Lost(m, script(t, s)...); got != want {
				t.Errorf("kind %d, %s: %d, not %d", kind, s, got, want)
			}
			if !machine.Same(m, nops(t, kind, cpu.State{})) {
				t.Errorf("kind %d, %s: the machine is another one", kind, s)
			}
		}
	}
}

func TestP52_2Any(t *testing.T) {
	r := rand.New(rand.NewSource(522))
	for range 100 {
		m := anyMachine(t, r)
		before := m.Copy()
		script := anyScript(r, r.Intn(100))
		want := 0
		for _, x := range m.Copy().Run(script...) {
			if !x.Mine {
				want++
			}
		}
		for range 2 {
			if got := stall.Lost(m, script...); got != want || !machine.Same(m, before) {
				t.Fatalf("%d, not %d", got, want)
			}
		}
	}
}

func TestP1NoMachine(t *testing.T) {
	given := script(t, ". N Q")
	for _, m := range []*machine.Machine{nil, {}} {
		for _, halt := range []bool{false, true} {
			got := stall.Insert(m, given, halt, stall.Stall{At: 1, Many: 5})
			if !slices.Equal(got, given) {
				t.Errorf("%v", got)
			}
			clear(got)
			if !slices.Equal(given, script(t, ". N Q")) {
				t.Error("what is answered is what came in")
			}
		}
		if n := stall.Lost(m, given...); n != 0 {
			t.Error(n)
		}
	}
	if got := stall.Insert(nops(t, 0, cpu.State{}), nil, true, stall.Stall{Many: 5}); len(got) != 0 {
		t.Errorf("%v", got)
	}
}

func TestP52_1Most(t *testing.T) {
	if stall.Most != 64 {
		t.Error(stall.Most)
	}
}
