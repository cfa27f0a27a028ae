package ram_test

import (
	"bytes"
	"math"
	"math/rand"
	"slices"
	"testing"

	"spinet/api"
	"spinet/ram"
)

// sheet is memory as the tests know it: its bytes, and its end.
type sheet struct {
	bytes [65536]byte
	rom   int
}

// made: memory that must be right.
func made(t *testing.T, image []byte, rom int) *ram.Ram {
	t.Helper()
	m, e := ram.New(image, rom)
	if m == nil || e != api.OK {
		t.Fatalf("New of %d bytes, and %d: %v", len(image), rom, e)
	}
	return m
}

// holds: has memory these bytes, and this end?
func (s *sheet) holds(t *testing.T, m *ram.Ram) {
	t.Helper()
	if m.Rom() != s.rom {
		t.Fatalf("Rom: %d, not %d", m.Rom(), s.rom)
	}
	for at, want := range s.bytes {
		if got := m.Read(uint16(at)); got != want {
			t.Fatalf("at %04X: %02X, not %02X", at, got, want)
		}
	}
}

// far: numbers that are no place, and no count that fits.
var far = []int{math.MinInt, math.MinInt + 1, -1 << 32, -65537, -65536, -257, -256, -255, -2, -1, 65538, 131072, 1 << 32, 1<<32 + 1, math.MaxInt - 1, math.MaxInt}

func noise(r *rand.Rand, n int) []byte {
	out := make([]byte, n)
	r.Read(out)
	return out
}

func TestP32_1Size(t *testing.T) {
	if ram.Size != 256 {
		t.Error(ram.Size)
	}
}

func TestP32_1New(t *testing.T) {
	r := rand.New(rand.NewSource(1))
	for _, n := range []int{0, 1, 2, 255, 256, 257, 511, 512, 513, 65279, 65280, 65281, 65535, 65536} {
		for _, rom := range []int{0, 1, 255, 256, 65535, 65536} {
			image := noise(r, n)
			kept := slices.Clone(image)
			m := made(t, image, rom)
			if !bytes.Equal(image, kept) {
				t.Fatal("New changed the bytes that it was given")
			}
			s := sheet{rom: rom}
			copy(s.bytes[:], image)
			s.holds(t, m)
			// The bytes that came in are no part of it.
			for i := range image {
				image[i]++
			}
			s.holds(t, m)
			m.Load(0, noise(r, 65536)...)
			for i := range image {
				image[i]--
			}
			if !bytes.Equal(image, kept) {
				t.Fatal("memory changed the bytes that New was given")
			}
		}
	}
	s := sheet{rom: 9}
	s.holds(t, made(t, nil, 9))
	s.holds(t, made(t, []byte{}, 9))
}

func TestP32_1NewOfOthers(t *testing.T) {
	wrong := func(n, rom int, want api.Errno) {
		t.Helper()
		if m, e := ram.New(make([]byte, n), rom); m != nil || e != want {
			t.Errorf("New of %d bytes, and %d: %v, %v, not %v", n, rom, m, e, want)
		}
	}
	for _, rom := range append([]int{65537}, far...) {
		wrong(0, rom, api.ErrArg)
		wrong(65536, rom, api.ErrArg)
		// The end is asked first.
		wrong(65537, rom, api.ErrArg)
	}
	for _, rom := range []int{0, 1, 65535, 65536} {
		wrong(65537, rom, api.ErrSize)
		wrong(200000, rom, api.ErrSize)
	}
}

func TestP32_1Write(t *testing.T) {
	for _, rom := range []int{0, 1, 2, 255, 256, 257, 0x8000, 0xFEFF, 0xFF00, 0xFFFE, 0xFFFF, 65536} {
		m := made(t, bytes.Repeat([]byte{7}, 65536), rom)
		s := sheet{rom: rom}
		for at := range 65536 {
			want := at < rom
			s.bytes[at] = 7
			if want {
				s.bytes[at] = byte(at*3 + 1)
			}
			if got := m.Write(uint16(at), byte(at*3+1)); got != want {
				t.Fatalf("Write at %04X, not from %04X on: %v", at, rom, got)
			}
		}
		s.holds(t, m)
		// A byte that is there already can be written, too, and one of 0.
		for at := range 65536 {
			if got := m.Write(uint16(at), s.bytes[at]); got != (at < rom) {
				t.Fatalf("Write of the same at %04X, not from %04X on: %v", at, rom, got)
			}
		}
		for at := range 65536 {
			if at < rom {
				s.bytes[at] = 0
			}
			if got := m.Write(uint16(at), 0); got != (at < rom) {
				t.Fatalf("Write of 0 at %04X, not from %04X on: %v", at, rom, got)
			}
		}
		s.holds(t, m)
	}
	m := made(t, []byte{1, 2}, 1)
	if m.Write(1, 9) || m.Read(1) != 2 || !m.Write(0, 9) || m.Read(0) != 9 {
		t.Error("the example of the chapter doesn't hold")
	}
}

func TestP32_1Poke(t *testing.T) {
	for _, rom := range []int{0, 256, 0x8000, 65536} {
		m := made(t, nil, rom)
		s := sheet{rom: rom}
		for at := range 65536 {
			s.bytes[at] = byte(at ^ at>>8)
			m.Poke(uint16(at), s.bytes[at])
		}
		s.holds(t, m)
		for _, at := range []uint16{0, 255, 256, 0x7FFF, 0x8000, 0xFFFF} {
			m.Poke(at, 0)
			s.bytes[at] = 0
		}
		s.holds(t, m)
	}
}

func TestP32_1Load(t *testing.T) {
	r := rand.New(rand.NewSource(2))
	m := made(t, nil, 0x4000)
	s := sheet{rom: 0x4000}
	for _, c := range []struct{ at, n int }{{0, 0}, {0, 1}, {65535, 0}, {65535, 1}, {65536, 0}, {65534, 2}, {0x3FFE, 4}, {0x4000, 256}, {255, 2}, {1, 65535}, {0, 65536}, {0x8000, 0x8000}, {100, 300}} {
		l := noise(r, c.n)
		kept := slices.Clone(l)
		if e := m.Load(c.at, l...); e != api.OK {
			t.Fatalf("Load of %d bytes at %d: %v", c.n, c.at, e)
		}
		copy(s.bytes[min(c.at, 65535):], l)
		s.holds(t, m)
		if !bytes.Equal(l, kept) {
			t.Fatal("Load changed the bytes that it was given")
		}
		for i := range l {
			l[i]++
		}
		s.holds(t, m)
	}
	for _, c := range []struct{ at, n int }{{65536, 1}, {65535, 2}, {65537, 0}, {65537, 1}, {0, 65537}, {1, 65536}, {0x8000, 0x8001}, {-1, 0}, {-1, 1}, {-1, 2}, {-5, 10}} {
		if e := m.Load(c.at, noise(r, c.n)...); e != api.ErrRange {
			t.Errorf("Load of %d bytes at %d: %v", c.n, c.at, e)
		}
	}
	for _, at := range far {
		for _, n := range []int{0, 1, 2, 300, 70000} {
			if e := m.Load(at, noise(r, n)...); e != api.ErrRange {
				t.Errorf("Load of %d bytes at %d: %v", n, at, e)
			}
		}
	}
	// Nothing of them was written.
	s.holds(t, m)
}

func TestP32_1AnyCalls(t *testing.T) {
	r := rand.New(rand.NewSource(3))
	for range 20 {
		rom := []int{0, r.Intn(65537), 65536}[r.Intn(3)]
		image := noise(r, []int{0, r.Intn(65537), 65536}[r.Intn(3)])
		m := made(t, image, rom)
		s := sheet{rom: rom}
		copy(s.bytes[:], image)
		for range 3000 {
			at := uint16(r.Intn(65536))
			if r.Intn(2) == 0 {
				at = uint16(rom + r.Intn(5) - 2)
			}
			b := byte(r.Intn(256) * r.Intn(2))
			switch r.Intn(4) {
			case 0:
				m.Poke(at, b)
				s.bytes[at] = b
			case 1:
				if m.Write(at, b) != (int(at) < rom) {
					t.Fatalf("Write at %04X, not from %04X on: %v", at, rom, int(at) >= rom)
				}
				if int(at) < rom {
					s.bytes[at] = b
				}
			case 2:
				l := noise(r, r.Intn(600))
				if m.Load(int(at), l...) == api.OK {
					copy(s.bytes[at:], l)
				}
			case 3:
				if m.Read(at) != s.bytes[at] {
					t.Fatalf("at %04X: %02X, not %02X", at, m.Read(at), s.bytes[at])
				}
			}
		}
		s.holds(t, m)
	}
}

func TestP32_2Part(t *testing.T) {
	r := rand.New(rand.NewSource(4))
	image := noise(r, 65536)
	m := made(t, image, 0x8000)
	twice := slices.Concat(image, image)
	for _, at := range []uint16{0, 1, 255, 256, 0x7FFF, 0xFF00, 0xFFFE, 0xFFFF} {
		for _, n := range []int{1, 2, 3, 255, 256, 257, 65534, 65535, 65536} {
			if got := m.Part(at, n); !bytes.Equal(got, twice[at:int(at)+n]) {
				t.Errorf("Part(%04X, %d) has other bytes", at, n)
			}
		}
		for _, n := range []int{0, -1, -2, -65536, math.MinInt} {
			if got := m.Part(at, n); len(got) != 0 {
				t.Errorf("Part(%04X, %d): %d bytes", at, n, len(got))
			}
		}
		for _, n := range []int{65537, 65538, 131072, 1 << 40, math.MaxInt} {
			if got := m.Part(at, n); !bytes.Equal(got, twice[at:int(at)+65536]) {
				t.Errorf("Part(%04X, %d) has other bytes, %d of them", at, n, len(got))
			}
		}
	}
	// What is answered is no part of memory.
	clear(m.Part(0, 65536))
	s := sheet{rom: 0x8000}
	copy(s.bytes[:], image)
	s.holds(t, m)
}

func TestP32_2Page(t *testing.T) {
	r := rand.New(rand.NewSource(5))
	image := noise(r, 65536)
	clear(image[0x1200:0x1300])
	m := made(t, image, 65536)
	for n := range 256 {
		got := m.Page(n)
		if !bytes.Equal(got, image[256*n:256*n+256]) {
			t.Fatalf("Page(%d): % X", n, got)
		}
		for i := range got {
			got[i]++
		}
	}
	s := sheet{rom: 65536}
	copy(s.bytes[:], image)
	s.holds(t, m)
	for _, n := range append([]int{256, 257, 65536}, far...) {
		if got := m.Page(n); len(got) != 0 {
			t.Errorf("Page(%d): %d bytes", n, len(got))
		}
	}
	if got := made(t, nil, 0).Page(255); !bytes.Equal(got, make([]byte, 256)) {
		t.Errorf("a page without a byte other than 0: % X", got)
	}
}

func TestP32_2Used(t *testing.T) {
	if l := made(t, nil, 65536).Used(); len(l) != 0 {
		t.Error(l)
	}
	if l := made(t, make([]byte, 65536), 65536).Used(); len(l) != 0 {
		t.Error(l)
	}
	m := made(t, nil, 0x9000)
	// Written in another order than they are told in.
	for _, at := range []uint16{0xFFFF, 0x1000, 0x0000, 0x8100, 0x01FF, 0x9100} {
		m.Poke(at, 1)
	}
	want := []int{0x00, 0x01, 0x10, 0x81, 0x91, 0xFF}
	for range 2 {
		l := m.Used()
		if !slices.Equal(l, want) {
			t.Errorf("%v, not %v", l, want)
		}
		clear(l)
	}
	// A page whose bytes are all 0 again isn't used, and one of whose bytes one is left is.
	m.Poke(0x1001, 5)
	m.Poke(0x1000, 0)
	m.Write(0x8100, 0)
	m.Load(0xFF00, make([]byte, 256)...)
	if l := m.Used(); !slices.Equal(l, []int{0x00, 0x01, 0x10, 0x91}) {
		t.Error(l)
	}
	var all []int
	for n := range 256 {
		all = append(all, n)
	}
	if l := made(t, bytes.Repeat([]byte{255}, 65536), 0).Used(); !slices.Equal(l, all) {
		t.Error(l)
	}
}

func TestP32_2Copy(t *testing.T) {
	r := rand.New(rand.NewSource(6))
	for range 20 {
		rom := r.Intn(65537)
		image := noise(r, r.Intn(65537))
		one := made(t, image, rom)
		s := sheet{rom: rom}
		copy(s.bytes[:], image)
		two := one.Copy()
		s.holds(t, two)
		if !ram.Same(one, two) {
			t.Fatal("a copy isn't the same")
		}
		// What is done with one isn't done with the other one, whichever it is.
		first, second := s, s
		for range 2000 {
			at, b := uint16(r.Intn(65536)), byte(r.Intn(256))
			if r.Intn(2) == 0 {
				one.Poke(at, b)
				first.bytes[at] = b
			} else {
				two.Poke(at, b)
				second.bytes[at] = b
			}
		}
		first.holds(t, one)
		second.holds(t, two)
	}
	empty := made(t, nil, 3)
	other := empty.Copy()
	empty.Poke(100, 1)
	if other.Read(100) != 0 || other.Rom() != 3 {
		t.Error("a copy of empty memory changed")
	}
}

func TestP32_2Same(t *testing.T) {
	same := func(a, b *ram.Ram, want bool) {
		t.Helper()
		if ram.Same(a, b) != want || ram.Same(b, a) != want {
			t.Errorf("Same: not %v", want)
		}
	}
	for _, image := range [][]byte{nil, {1}, bytes.Repeat([]byte{9}, 65536)} {
		for _, rom := range []int{0, 1, 0x8000, 65535, 65536} {
			a := made(t, image, rom)
			same(a, a, true)
			same(a, made(t, image, rom), true)
			for _, other := range []int{0, 1, 0x8000, 65535, 65536} {
				same(a, made(t, image, other), other == rom)
			}
		}
		a := made(t, image, 65536)
		for _, at := range []uint16{0, 1, 255, 256, 0x7FFF, 0x8000, 0xFEFF, 0xFF00, 0xFFFE, 0xFFFF} {
			b := made(t, image, 65536)
			b.Poke(at, b.Read(at)+1)
			same(a, b, false)
			b.Poke(at, b.Read(at)-1)
			same(a, b, true)
		}
	}
	same(made(t, make([]byte, 65536), 5), made(t, nil, 5), true)
	same(made(t, []byte{0, 0, 7}, 5), made(t, []byte{0, 0, 7, 0, 0}, 5), true)
}

// No memory is handed in: a bool comes, no panic (P1 of DOC.md).
func TestP1SameOfNone(t *testing.T) {
	m := made(t, nil, 0)
	if ram.Same(nil, m) || ram.Same(m, nil) {
		t.Error("memory is the same as none")
	}
	ram.Same(nil, nil)
}
