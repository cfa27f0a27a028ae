package fast_test

import (
	"bytes"
	"math/rand"
	"testing"

	"spinet/api"
	"spinet/arbiter"
	"spinet/core"
	"spinet/cpu"
	"spinet/edge"
	"spinet/fast"
	"spinet/machine"
	"spinet/ram"
)

// modes are those in which a processor is behind a row, by how it ends.
var modes = map[int]int{core.Ends: api.AtBoundary, core.Sync: api.InSync, core.Cwai: api.InCwai}

// Whole instructions are what their cycles are: machines that go Step by Step are beside what fast does.
func TestP37_3Steps(t *testing.T) {
	r := rand.New(rand.NewSource(11))
	ends := map[int]int{}
	for n := range 200 {
		image := noise(r)
		regs := anyRegs(r)
		shape := api.Config{Kind: n % 2, Rom: 65536 - r.Intn(2)*r.Intn(65537)}
		m, e := machine.Restore(shape, cpu.State{Regs: regs}, image[:])
		if e != api.OK {
			t.Fatal(e)
		}
		mine, _ := ram.New(image[:], shape.Rom)
		armed := false
		for steps := 0; steps < 60 && m.Mode() == api.AtBoundary; steps++ {
			got := fast.Step(m.Regs(), mine)
			cycles, _ := m.Step()
			armed = armed || got.Loads
			ends[got.End]++
			want := cpu.State{Mode: modes[got.End], Regs: got.Regs, Latch: edge.Latch{Armed: armed}}
			if s := m.State(); got.Cycles != cycles || s.Mode != want.Mode || s.Regs != want.Regs || s.Latch != want.Latch || s.Arb != (arbiter.State{}) || len(s.Log) > 0 {
				t.Fatalf("%+v, %d cycles, not %+v, %d", got, got.Cycles, m.State(), cycles)
			}
		}
		if !ram.Same(mine, m.Ram()) {
			t.Fatal("memory isn't the same")
		}
	}
	if ends[core.Ends] < 1000 || ends[core.Sync] == 0 || ends[core.Cwai] == 0 {
		t.Errorf("too few instructions: %v", ends)
	}
}

// Many are Steps.
func TestP37_3Many(t *testing.T) {
	r := rand.New(rand.NewSource(12))
	for range 100 {
		image := noise(r)
		// Where nothing else stands, the program goes round.
		copy(image[0x1000:], bytes.Repeat([]byte{0x5C, 0xE7, 0x80, 0x3D, 0x34, 0x16, 0x20, 0xF8}, 30))
		regs := anyRegs(r)
		regs.PC = 0x1000
		m, e := machine.Restore(api.Config{Rom: 65536}, cpu.State{Regs: regs}, image[:])
		if e != api.OK {
			t.Fatal(e)
		}
		mine, _ := ram.New(image[:], 65536)
		got, steps, cycles := fast.Many(regs, mine, 300)
		wantSteps, wantCycles := m.Steps(300)
		if got != m.Regs() || steps != wantSteps || cycles != wantCycles || !ram.Same(mine, m.Ram()) {
			t.Fatalf("%+v, %d, %d, not %+v, %d, %d", got, steps, cycles, m.Regs(), wantSteps, wantCycles)
		}
	}
}
