package fast

import (
	"spinet/cpu"
	"spinet/octet"
)

// bus is the way to memory. One that is none, or that panics, has 0 everywhere, as for layer 34.
type bus struct {
	memory cpu.Memory
}

// read: the byte at an address.
func (b bus) read(at uint16) byte {
	defer func() { _ = recover() }()
	return b.memory.Read(at)
}

// write: other bytes from an address on, the first one first. Whether they could be written counts for nothing.
func (b bus) write(at uint16, l ...byte) {
	for i, x := range l {
		b.writeOne(at+uint16(i), x)
	}
}

func (b bus) writeOne(at uint16, x byte) {
	defer func() { _ = recover() }()
	b.memory.Write(at, x)
}

// word: two bytes from an address on.
func (b bus) word(at uint16) uint16 {
	hi := b.read(at)
	return octet.Word(hi, b.read(at+1))
}
