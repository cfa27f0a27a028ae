package edge_test

import (
	"math/rand"
	"testing"

	"spinet/edge"
)

// latches are all there are.
func latches() []edge.Latch {
	var out []edge.Latch
	for n := range 8 {
		out = append(out, edge.Latch{Level: n&1 > 0, Armed: n&2 > 0, Set: n&4 > 0})
	}
	return out
}

func TestP28_1Sample(t *testing.T) {
	// Level, Armed, Set, what comes; Set then: written by hand.
	cases := []struct{ level, armed, set, now, then bool }{
		{false, false, false, false, false},
		{false, false, false, true, false},
		{true, false, false, false, false},
		{true, false, false, true, false},
		{false, true, false, false, false},
		{false, true, false, true, true},
		{true, true, false, false, false},
		{true, true, false, true, false},
		{false, false, true, false, true},
		{false, false, true, true, true},
		{true, false, true, false, true},
		{true, false, true, true, true},
		{false, true, true, false, true},
		{false, true, true, true, true},
		{true, true, true, false, true},
		{true, true, true, true, true},
	}
	for _, c := range cases {
		l := edge.Latch{Level: c.level, Armed: c.armed, Set: c.set}
		want := edge.Latch{Level: c.now, Armed: c.armed, Set: c.then}
		if got := edge.Sample(l, c.now); got != want {
			t.Errorf("Sample(%+v, %v): %+v, not %+v", l, c.now, got, want)
		}
	}
}

func TestP28_1ArmTakeReset(t *testing.T) {
	for _, l := range latches() {
		if got := edge.Arm(l); got != (edge.Latch{Level: l.Level, Armed: true, Set: l.Set}) {
			t.Errorf("Arm(%+v): %+v", l, got)
		}
		if got := edge.Take(l); got != (edge.Latch{Level: l.Level, Armed: l.Armed}) {
			t.Errorf("Take(%+v): %+v", l, got)
		}
		if got := edge.Reset(l); got != (edge.Latch{Level: l.Level}) {
			t.Errorf("Reset(%+v): %+v", l, got)
		}
	}
}

func TestP28_1All(t *testing.T) {
	armed := edge.Arm(edge.Latch{})
	cases := []struct {
		from   edge.Latch
		levels []bool
		want   edge.Latch
	}{
		{armed, []bool{true, false}, edge.Latch{Armed: true, Set: true}},
		{armed, []bool{false, true}, edge.Latch{Level: true, Armed: true, Set: true}},
		{armed, []bool{false, false, false}, edge.Latch{Armed: true}},
		{armed, nil, armed},
		{edge.Latch{}, []bool{true, false, true}, edge.Latch{Level: true}},
		// An active level ahead of the arming makes no edge, till it has gone and come again.
		{edge.Latch{Level: true, Armed: true}, []bool{true, true}, edge.Latch{Level: true, Armed: true}},
		{edge.Latch{Level: true, Armed: true}, []bool{true, false, true}, edge.Latch{Level: true, Armed: true, Set: true}},
		{edge.Latch{Level: true, Set: true}, []bool{}, edge.Latch{Level: true, Set: true}},
	}
	for _, c := range cases {
		if got := edge.All(c.from, c.levels...); got != c.want {
			t.Errorf("All(%+v, %v): %+v, not %+v", c.from, c.levels, got, c.want)
		}
	}
	r := rand.New(rand.NewSource(28))
	for range 2000 {
		from := latches()[r.Intn(8)]
		var levels []bool
		want := from
		for range r.Intn(20) {
			level := r.Intn(2) > 0
			levels = append(levels, level)
			want = edge.Sample(want, level)
		}
		// What is handed in stays (P2 of DOC.md): the same comes out again.
		for range 2 {
			if got := edge.All(from, levels...); got != want {
				t.Fatalf("All(%+v, %v): %+v, not %+v", from, levels, got, want)
			}
		}
	}
}

// A whole way: an edge counts behind the arming alone, is kept till it is taken, and RESET forgets it.
func TestP28_1Way(t *testing.T) {
	l := edge.All(edge.Latch{}, true, false)
	if l.Set {
		t.Error("an edge ahead of the arming was kept")
	}
	l = edge.All(edge.Arm(l), false, true, false, false)
	if !l.Set {
		t.Error("an edge wasn't kept")
	}
	l = edge.Take(edge.Sample(l, true))
	if l != (edge.Latch{Level: true, Armed: true}) {
		t.Errorf("behind Take: %+v", l)
	}
	l = edge.Reset(edge.All(l, false, true))
	if l != (edge.Latch{Level: true}) || edge.All(l, false, true).Set {
		t.Errorf("behind Reset: %+v", l)
	}
}
