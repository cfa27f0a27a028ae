package snap

import (
	"spinet/api"
	"spinet/cpu"
	"spinet/edge"
	"spinet/octet"
	"spinet/pack"
	"spinet/ram"
)

// What stands for the parts of NMI's latch that are on.
const (
	level = 1
	armed = 2
	set   = 4
)

// writer is what has been written so far.
type writer []byte

// bytes: numbers, one byte each.
func (w *writer) bytes(b ...byte) { *w = append(*w, b...) }

// words: numbers, two bytes each.
func (w *writer) words(l ...uint16) { w.bytes(octet.Bytes(l...)...) }

// config: a shape.
func (w *writer) config(c api.Config) {
	w.bytes(byte(c.Kind), byte(c.Rom>>16))
	w.words(uint16(c.Rom))
}

// state: a processor's state.
func (w *writer) state(s cpu.State) {
	r := s.Regs
	w.bytes(r.A, r.B, r.DP, r.CC)
	w.words(r.X, r.Y, r.U, r.S, r.PC)
	w.bytes(latched(s.Latch))
	w.bytes(byte(s.Arb.Phase), byte(s.Arb.Count), byte(s.Mode), byte(s.Row), byte(len(s.Log)))
	w.bytes(s.Log...)
}

// memory: the pages that have a byte other than 0.
func (w *writer) memory(m *ram.Ram) {
	used := m.Used()
	w.words(uint16(len(used)))
	for _, n := range used {
		packed := pack.Pack(m.Page(n))
		w.bytes(byte(n))
		w.words(uint16(len(packed)))
		w.bytes(packed...)
	}
}

// latched: a latch as a number.
func latched(l edge.Latch) byte {
	var n byte
	if l.Level {
		n += level
	}
	if l.Armed {
		n += armed
	}
	if l.Set {
		n += set
	}
	return n
}
