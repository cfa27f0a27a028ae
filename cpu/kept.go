package cpu

import (
	"spinet/api"
	"spinet/arbiter"
	"spinet/edge"
	"spinet/prio"
)

// kept is what is kept of the pins: NMI's latch, and the arbiter's state.
type kept struct {
	latch edge.Latch
	arb   arbiter.State
}

// sample: NMI's level in a cycle.
func (k *kept) sample(nmi bool) { k.latch = edge.Sample(k.latch, nmi) }

// arm: from now on NMI counts.
func (k *kept) arm() { k.latch = edge.Arm(k.latch) }

// take: the row of NMI has begun.
func (k *kept) take() { k.latch = edge.Take(k.latch) }

// clear: RESET came.
func (k *kept) clear() { k.latch, k.arb = edge.Reset(k.latch), arbiter.State{} }

// whose: whose a cycle is, of a kind of processor, by the pin that asks for the bus.
func (k *kept) whose(kind int, req bool) int {
	var whose int
	k.arb, whose = arbiter.Next(kind, k.arb, req)
	return whose
}

// first: the row that begins at a boundary.
func (k *kept) first(p api.Pins, cc byte) int { return prio.Row(k.latch, p, cc) }

// wakes: does the wait behind SYNC end?
func (k *kept) wakes(p api.Pins) bool { return prio.Wakes(k.latch, p) }

// behind: the row that ends the wait behind CWAI; false: there is none.
func (k *kept) behind(p api.Pins, cc byte) (int, bool) { return prio.Behind(k.latch, p, cc) }
