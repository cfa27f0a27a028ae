package snap

import (
	"spinet/api"
	"spinet/arbiter"
	"spinet/cpu"
	"spinet/edge"
	"spinet/octet"
	"spinet/pack"
	"spinet/ram"
)

// reader takes bytes from the front on.
type reader struct {
	rest []byte
}

// take: so many bytes, whose room ends with them; bytes 0, if there aren't as many.
func (r *reader) take(n int) []byte {
	if n > len(r.rest) {
		r.rest = nil
		return make([]byte, n)
	}
	out := r.rest[:n:n]
	r.rest = r.rest[n:]
	return out
}

// number: a number of one byte.
func (r *reader) number() byte { return r.take(1)[0] }

// word: a number of two bytes.
func (r *reader) word() uint16 { return octet.Words(r.take(2)...)[0] }

// config: a shape.
func (r *reader) config() api.Config {
	kind, high := r.number(), r.number()
	return api.Config{Kind: int(kind), Rom: int(high)<<16 | int(r.word())}
}

// state: a processor's state.
func (r *reader) state() cpu.State {
	s := cpu.State{Regs: r.regs(), Latch: unlatched(r.number())}
	s.Arb = arbiter.State{Phase: int(r.number()), Count: int(r.number())}
	s.Mode, s.Row = int(r.number()), int(r.number())
	s.Log = r.take(int(r.number()))
	return s
}

// regs: the registers.
func (r *reader) regs() api.Regs {
	b := r.take(4)
	w := octet.Words(r.take(10)...)
	return api.Regs{A: b[0], B: b[1], DP: b[2], CC: b[3], X: w[0], Y: w[1], U: w[2], S: w[3], PC: w[4]}
}

// memory: pages go into memory.
func (r *reader) memory(m *ram.Ram) {
	for range r.word() {
		n := int(r.number())
		page, _ := pack.Unpack(r.take(int(r.word())), ram.Size)
		m.Load(n*ram.Size, page...)
	}
}

// unlatched: the latch of a number.
func unlatched(n byte) edge.Latch {
	return edge.Latch{Level: n&level > 0, Armed: n&armed > 0, Set: n&set > 0}
}
