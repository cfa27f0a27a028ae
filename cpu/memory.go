package cpu

// Memory is where a processor reads and writes.
type Memory interface {
	Read(at uint16) byte
	Write(at uint16, b byte) bool
}

// read: the byte at an address. A memory that is none, or that panics, has 0 there, so that a cycle always ends.
func read(m Memory, at uint16) byte {
	defer func() { _ = recover() }()
	return m.Read(at)
}

// write: another byte at an address. Whether it could be written counts for nothing.
func write(m Memory, at uint16, b byte) {
	defer func() { _ = recover() }()
	m.Write(at, b)
}
