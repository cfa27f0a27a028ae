package prio_test

import (
	"testing"

	"spinet/api"
	"spinet/edge"
	"spinet/prio"
)

// each goes through all latches, all pins and all codes.
func each(call func(l edge.Latch, p api.Pins, cc byte)) {
	on := func(n, bit int) bool { return n>>bit&1 > 0 }
	for n := range 512 {
		l := edge.Latch{Level: on(n, 0), Armed: on(n, 1), Set: on(n, 2)}
		p := api.Pins{Reset: on(n, 3), Nmi: on(n, 4), Firq: on(n, 5), Irq: on(n, 6), Halt: on(n, 7), Req: on(n, 8)}
		for cc := range 256 {
			call(l, p, byte(cc))
		}
	}
}

func TestP29_1All(t *testing.T) {
	each(func(l edge.Latch, p api.Pins, cc byte) {
		want, behind := 0, 0
		if p.Irq && cc/16%2 == 0 {
			want, behind = 3, 7
		}
		if p.Firq && cc/64%2 == 0 {
			want, behind = 2, 6
		}
		if l.Set {
			want, behind = 1, 5
		}
		if got := prio.Row(l, p, cc); got != want {
			t.Fatalf("Row(%+v, %+v, %X): %d, not %d", l, p, cc, got, want)
		}
		if got, ok := prio.Behind(l, p, cc); got != behind || ok != (want > 0) {
			t.Fatalf("Behind(%+v, %+v, %X): %d, %v, not %d", l, p, cc, got, ok, behind)
		}
		if got := prio.Wakes(l, p); got != (l.Set || p.Firq || p.Irq) {
			t.Fatalf("Wakes(%+v, %+v): %v", l, p, got)
		}
	})
}

func TestP29_1Some(t *testing.T) {
	set := edge.Latch{Armed: true, Set: true}
	both := api.Pins{Firq: true, Irq: true}
	cases := []struct {
		name   string
		l      edge.Latch
		p      api.Pins
		cc     byte
		row    int
		behind int
		wakes  bool
	}{
		{"nothing", edge.Latch{}, api.Pins{}, 0, api.RowInst, 0, false},
		{"F on, I off", edge.Latch{}, both, api.F, api.RowIrq, api.RowIrqW, true},
		{"F off, I on", edge.Latch{}, both, api.I, api.RowFirq, api.RowFirqW, true},
		{"both off", edge.Latch{}, both, 0, api.RowFirq, api.RowFirqW, true},
		{"both on", edge.Latch{}, both, api.F | api.I, api.RowInst, 0, true},
		{"all but F and I", edge.Latch{}, both, 255 &^ (api.F | api.I), api.RowFirq, api.RowFirqW, true},
		{"IRQ alone, F on", edge.Latch{}, api.Pins{Irq: true}, api.F, api.RowIrq, api.RowIrqW, true},
		{"an edge, F and I on", set, both, 255, api.RowNmi, api.RowNmiW, true},
		{"an edge alone", set, api.Pins{}, 255, api.RowNmi, api.RowNmiW, true},
		// The level of NMI is nothing, and its arming is none of it: what was kept counts.
		{"NMI's level", edge.Latch{Level: true, Armed: true}, api.Pins{Nmi: true}, 0, api.RowInst, 0, false},
		{"Set alone", edge.Latch{Set: true}, api.Pins{}, 0, api.RowNmi, api.RowNmiW, true},
		{"other pins", edge.Latch{}, api.Pins{Reset: true, Nmi: true, Halt: true, Req: true}, 0, api.RowInst, 0, false},
	}
	for _, c := range cases {
		for range 2 {
			if got := prio.Row(c.l, c.p, c.cc); got != c.row {
				t.Errorf("%s: Row: %d, not %d", c.name, got, c.row)
			}
			if got, ok := prio.Behind(c.l, c.p, c.cc); got != c.behind || ok != (c.row != api.RowInst) {
				t.Errorf("%s: Behind: %d, %v, not %d", c.name, got, ok, c.behind)
			}
			if got := prio.Wakes(c.l, c.p); got != c.wakes {
				t.Errorf("%s: Wakes: %v", c.name, got)
			}
		}
	}
}
