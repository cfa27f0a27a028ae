package snap_test

import (
	"bytes"
	"encoding/hex"
	"math/rand"
	"slices"
	"strings"
	"testing"

	"spinet/api"
	"spinet/arbiter"
	"spinet/cpu"
	"spinet/crc"
	"spinet/edge"
	"spinet/machine"
	"spinet/pack"
	"spinet/snap"
)

// plain: bytes of digits, between which blanks and lines may be.
func plain(t *testing.T, s string) []byte {
	t.Helper()
	b, err := hex.DecodeString(strings.Join(strings.Fields(s), ""))
	if err != nil {
		t.Fatal(err)
	}
	return b
}

// made: a machine that must be right.
func made(t *testing.T, c api.Config, s cpu.State, at map[int][]byte) *machine.Machine {
	t.Helper()
	m, e := machine.Restore(c, s, nil)
	if e != api.OK {
		t.Fatalf("%+v, %+v: %v", c, s, e)
	}
	for from, l := range at {
		m.Ram().Load(from, l...)
	}
	return m
}

// anyMachine: one behind any cycles.
func anyMachine(r *rand.Rand, t *testing.T) *machine.Machine {
	t.Helper()
	w := func() uint16 { return uint16(r.Intn(65536)) }
	b := func() byte { return byte(r.Intn(256)) }
	regs := api.Regs{A: b(), B: b(), DP: b(), CC: b() & 0xAF, X: w(), Y: w(), U: w(), S: w(), PC: w()}
	image := make([]byte, 65536)
	for range r.Intn(40) {
		page := image[256*r.Intn(256):][:256]
		r.Read(page[r.Intn(256):])
		if r.Intn(2) == 0 {
			copy(page[r.Intn(256):], bytes.Repeat([]byte{0x13, 0x3C, 0xAF}[r.Intn(3):][:1], r.Intn(256)))
		}
	}
	s := cpu.State{Mode: []int{api.AtBoundary, api.AtBoundary, api.InSync, api.InCwai}[r.Intn(4)], Regs: regs, Latch: edge.Latch{Armed: r.Intn(2) == 0}}
	m, e := machine.Restore(api.Config{Kind: r.Intn(2), Rom: r.Intn(65537)}, s, image)
	if e != api.OK {
		t.Fatal(e)
	}
	m.Run(anyPins(r, r.Intn(3)*r.Intn(40))...)
	return m
}

// anyPins: the pins of so many cycles.
func anyPins(r *rand.Rand, n int) []api.Pins {
	out := make([]api.Pins, n)
	rare := func(often int) bool { return r.Intn(often) == 0 }
	for i := range out {
		out[i] = api.Pins{Reset: rare(80), Nmi: rare(9), Firq: rare(40), Irq: rare(40), Halt: rare(20), Req: rare(3)}
	}
	return out
}

// sheet: the bytes of a machine ahead of their sum, by the words of the chapter.
func sheet(m *machine.Machine) []byte {
	c, s := m.Config(), m.State()
	out := []byte{'S', 'P', 'N', '1', byte(c.Kind), byte(c.Rom / 65536), byte(c.Rom / 256), byte(c.Rom)}
	two := func(n int) { out = append(out, byte(n/256), byte(n%256)) }
	out = append(out, s.Regs.A, s.Regs.B, s.Regs.DP, s.Regs.CC)
	for _, w := range []uint16{s.Regs.X, s.Regs.Y, s.Regs.U, s.Regs.S, s.Regs.PC} {
		two(int(w))
	}
	sum := 0
	for i, on := range []bool{s.Latch.Level, s.Latch.Armed, s.Latch.Set} {
		if on {
			sum += 1 << i
		}
	}
	out = append(out, byte(sum), byte(s.Arb.Phase), byte(s.Arb.Count), byte(s.Mode), byte(s.Row), byte(len(s.Log)))
	out = append(out, s.Log...)
	var pages []byte
	count := 0
	for n := range 256 {
		page := m.Ram().Part(uint16(256*n), 256)
		if bytes.Equal(page, make([]byte, 256)) {
			continue
		}
		count++
		packed := pack.Pack(page)
		pages = append(append(pages, byte(n), byte(len(packed)/256), byte(len(packed)%256)), packed...)
	}
	two(count)
	return append(out, pages...)
}

// read: the machine of bytes that must be one's.
func read(t *testing.T, b []byte) *machine.Machine {
	t.Helper()
	m, e := snap.Get(b)
	if m == nil || e != api.OK {
		t.Fatalf("Get(% X): %v, %v", b, m, e)
	}
	return m
}

// refused: Get answers an error, and no machine.
func refused(t *testing.T, what string, b []byte, want api.Errno) {
	t.Helper()
	if m, e := snap.Get(b); m != nil || e != want {
		t.Errorf("%s: Get(% X): %v, not %v", what, b, e, want)
	}
}

func TestP39_1New(t *testing.T) {
	want := crc.Seal(append([]byte("SPN1\x00\x01\x00\x00"), make([]byte, 22)...))
	if got := snap.Put(made(t, api.Config{Rom: 65536}, cpu.State{}, nil)); !bytes.Equal(got, want) || len(got) != 32 {
		t.Errorf("% X, not % X", got, want)
	}
}

// inRow is a machine within a row, all of whose numbers are told apart, and its bytes, written out by hand.
func inRow(t *testing.T) (*machine.Machine, []byte) {
	t.Helper()
	m := made(t, api.Config{Kind: 1, Rom: 0xABCD}, cpu.State{
		Mode: api.InRow, Row: api.RowIrq, Log: []byte{0x61, 0x62, 0x63, 0x1C},
		Regs:  api.Regs{A: 0x11, B: 0x12, DP: 0x13, CC: 0x24, X: 0x1514, Y: 0x1716, U: 0x1918, S: 0x1B1A, PC: 0x1D1C},
		Latch: edge.Latch{Armed: true, Set: true},
		Arb:   arbiter.State{Phase: arbiter.Gone, Count: 9},
	}, map[int][]byte{0x0003: {7, 8}, 0xC1FF: {9}, 0xFF00: bytes.Repeat([]byte{5}, 256)})
	return m, plain(t, `
		53 50 4E 31  01 00 AB CD
		11 12 13 24  15 14 17 16 19 18 1B 1A 1D 1C
		06 01 09 01 03 04  61 62 63 1C
		00 03
		00 00 09  FD 00 02 07 08 80 00 85 00
		C1 00 06  80 00 81 00 01 09
		FF 00 04  80 05 80 05
	`)
}

func TestP39_1Known(t *testing.T) {
	m, want := inRow(t)
	if got := snap.Put(m); !bytes.Equal(got, crc.Seal(want)) {
		t.Errorf("% X, not % X", got, crc.Seal(want))
	}
	if !machine.Same(read(t, crc.Seal(want)), m) {
		t.Error("what is read is another machine")
	}
	// All latches there may be, one sum each.
	for n, l := range map[byte]edge.Latch{0: {}, 1: {Level: true}, 2: {Armed: true}, 3: {Level: true, Armed: true}, 6: {Armed: true, Set: true}, 7: {Level: true, Armed: true, Set: true}} {
		got := snap.Put(made(t, api.Config{Rom: 1}, cpu.State{Latch: l}, nil))
		if want := crc.Seal(plain(t, "53504E31 00 000001 00000000 00000000000000000000"+hex.EncodeToString([]byte{n})+"00 00 00 00 00 0000")); !bytes.Equal(got, want) {
			t.Errorf("% X, not % X", got, want)
		}
	}
}

func TestP39_1All(t *testing.T) {
	r := rand.New(rand.NewSource(1))
	modes := map[int]int{}
	for range 400 {
		m := anyMachine(r, t)
		modes[m.Mode()]++
		kept := m.Copy()
		got := snap.Put(m)
		if want := crc.Seal(sheet(m)); !bytes.Equal(got, want) {
			t.Fatalf("% X, not % X", got, want)
		}
		clear(got)
		if !machine.Same(m, kept) || !bytes.Equal(snap.Put(m), crc.Seal(sheet(kept))) {
			t.Fatal("Put changed the machine")
		}
	}
	if len(modes) != 5 {
		t.Errorf("modes: %v", modes)
	}
	// All pages, none of which packs well.
	image := make([]byte, 65536)
	r.Read(image)
	m, _ := machine.New(api.Config{Kind: 1, Rom: 0}, image)
	got := snap.Put(m)
	if !bytes.Equal(got, crc.Seal(sheet(m))) || !bytes.Equal(got[28:30], []byte{1, 0}) || !machine.Same(read(t, got), m) {
		t.Error("all pages")
	}
}

// What is read is as what was written, and goes on as it.
func TestP39_3GoesOn(t *testing.T) {
	r := rand.New(rand.NewSource(2))
	modes := map[int]int{}
	for range 400 {
		m := anyMachine(r, t)
		modes[m.Mode()]++
		b := snap.Put(m)
		kept := slices.Clone(b)
		again := read(t, b)
		if !bytes.Equal(b, kept) {
			t.Fatal("Get changed what it was given")
		}
		clear(b)
		if !machine.Same(m, again) || !bytes.Equal(snap.Put(again), kept) {
			t.Fatalf("%+v, not %+v", again.State(), m.State())
		}
		script := anyPins(r, 60)
		if got, want := again.Run(script...), m.Run(script...); !slices.Equal(got, want) {
			t.Fatalf("%v, not %v", got, want)
		}
		if !machine.Same(m, again) {
			t.Fatal("it doesn't go on as the other one")
		}
	}
	if len(modes) != 5 {
		t.Errorf("modes: %v", modes)
	}
}

// The sum is asked first.
func TestP39_2Sum(t *testing.T) {
	for _, b := range [][]byte{nil, {}, {0}, {0xFF}, {0, 0}, []byte("SPN1"), make([]byte, 32)} {
		refused(t, "no sum", b, api.ErrSum)
	}
	_, body := inRow(t)
	b := crc.Seal(body)
	for at := range b {
		for _, x := range []byte{1, 2, 128, 255} {
			c := slices.Clone(b)
			c[at] += x
			refused(t, "another byte", c, api.ErrSum)
		}
		refused(t, "no end", b[:at], api.ErrSum)
	}
	refused(t, "a byte behind", append(slices.Clone(b), 1), api.ErrSum)
	refused(t, "without a sum", body, api.ErrSum)
}

// Bytes with their sum that are no machine's.
func TestP39_2Form(t *testing.T) {
	_, body := inRow(t)
	read(t, crc.Seal(body))
	for n := range body {
		refused(t, "too early an end", crc.Seal(body[:n]), api.ErrForm)
	}
	refused(t, "a byte behind", crc.Seal(append(slices.Clone(body), 0)), api.ErrForm)
	// Bytes and their sum, and 0 behind, end with a sum of theirs again.
	refused(t, "0 behind a sum", append(crc.Seal(body), 0), api.ErrForm)
	refused(t, "a sum behind a sum", crc.Seal(crc.Seal(body)), api.ErrForm)
	// Any other byte at any place: another machine's, or none's.
	others := 0
	for at := range body {
		for x := range 255 {
			b := slices.Clone(body)
			b[at] += byte(x + 1)
			b = crc.Seal(b)
			m, e := snap.Get(b)
			switch {
			case e == api.OK && m != nil && bytes.Equal(snap.Put(m), b) && bytes.Equal(crc.Seal(sheet(m)), b):
				others++
			case e != api.ErrForm || m != nil:
				t.Fatalf("Get(% X): %v, %v", b, m, e)
			}
		}
	}
	if others == 0 {
		t.Error("no other machine")
	}
}

// put: a body with other bytes at a place.
func put(body []byte, at int, b ...byte) []byte {
	out := slices.Clone(body)
	copy(out[at:], b)
	return out
}

// Written out by hand: each part that may be wrong.
func TestP39_2Parts(t *testing.T) {
	_, body := inRow(t)
	zero := append([]byte("SPN1\x00\x01\x00\x00"), make([]byte, 22)...)
	read(t, crc.Seal(zero))
	const (
		kind, rom, latch, phase, count, mode, row, log = 4, 5, 22, 23, 24, 25, 26, 27
		bytesOf, pages, first, second                  = 28, 32, 34, 46
	)
	for _, c := range []struct {
		what string
		b    []byte
	}{
		{"none at all", nil},
		{"another letter", put(zero, 0, 's')},
		{"another letter", put(zero, 2, 'M')},
		{"another form", put(zero, 3, '2')},
		{"another form", put(zero, 3, 1)},
		{"the kind 2", put(zero, kind, 2)},
		{"the kind 255", put(zero, kind, 255)},
		{"an end behind memory", put(zero, rom, 1, 0, 1)},
		{"an end behind memory", put(zero, rom, 2, 0, 0)},
		{"an end behind memory", put(zero, rom, 255, 255, 255)},
		{"a latch that is set, not armed", put(zero, latch, 4)},
		{"a latch that is set, not armed", put(zero, latch, 5)},
		{"a latch of more", put(zero, latch, 8)},
		{"a latch of more", put(zero, latch, 128+2)},
		{"a phase of TSC", put(zero, phase, 1)},
		{"a phase of TSC", put(zero, phase, 2)},
		{"a count of TSC", put(zero, count, 1)},
		{"the phase 3", put(body, phase, 3, 0)},
		{"a count too great", put(body, count, 16)},
		{"a count where none is", put(body, phase, 0, 1)},
		{"a count where none is", put(body, phase, 2, 1)},
		{"the mode 5", put(zero, mode, 5)},
		{"the mode 255", put(zero, mode, 255)},
		{"a row at a boundary", put(zero, row, 1)},
		{"no row within a row", put(zero, mode, 1)},
		{"the row 8", put(body, row, 8)},
		{"the row 255", put(body, row, 255)},
		{"bytes at a boundary", append(put(zero[:bytesOf], log, 1), 0x12, 0, 0)},
		{"a row that is over", append(put(zero[:bytesOf], mode, 1, 0, 2), 0x12, 0x12, 0, 0)},
		{"a row that writes another byte", put(body, bytesOf+3, 0x1B)},
		{"more bytes than a row has", append(put(zero[:bytesOf], mode, 1, 0, 255), make([]byte, 257)...)},
		{"a page too few", put(body, pages, 0, 2)},
		{"a page too many", put(body, pages, 0, 4)},
		{"no page", put(body, pages, 0, 0)},
		{"pages too many", put(body, pages, 255, 255)},
		{"a page again", put(body, second, 0)},
		{"pages that fall", put(put(body, second, 0), first, 1)},
		{"pages that fall", put(body, first, 0xC2)},
		{"pages too long", put(body, first+1, 1, 9)},
		{"pages too long", put(body, first+1, 255, 255)},
		{"pages too short", put(body, first+1, 0, 8)},
		{"a page of no bytes", slices.Concat(body[:pages], []byte{0, 1, 0, 0, 0})},
		{"a page of 255 bytes", slices.Concat(body[:pages], []byte{0, 1, 0, 0, 4, 128, 5, 129, 5})},
		{"a page of 257 bytes", slices.Concat(body[:pages], []byte{0, 1, 0, 0, 6, 128, 5, 128, 5, 1, 5})},
		{"a page of 257 bytes", slices.Concat(body[:pages], []byte{0, 1, 0, 0, 6, 128, 0, 128, 5, 1, 0})},
		{"a page of bytes 0 alone", slices.Concat(body[:pages], []byte{0, 1, 0, 0, 4, 128, 0, 128, 0})},
		{"a page that is packed in another way", slices.Concat(body[:pages], []byte{0, 1, 0, 0, 6, 128, 5, 129, 5, 1, 5})},
		{"a page that isn't packed", slices.Concat(body[:pages], []byte{0, 1, 0, 0, 3, 128, 5, 128})},
		{"a page that isn't packed", slices.Concat(body[:pages], []byte{0, 1, 0, 0, 5, 128, 5, 128, 5, 0})},
		{"a page of no number", slices.Concat(body[:pages], []byte{0, 1})},
	} {
		refused(t, c.what, crc.Seal(c.b), api.ErrForm)
	}
	// Beside them those that are right, so that it isn't something else that is wrong.
	for _, b := range [][]byte{
		put(zero, kind, 1),
		put(zero, rom, 0, 255, 255),
		put(zero, rom, 0, 0, 0),
		put(zero, latch, 7),
		put(body, phase, 2, 0),
		put(body, count, 15),
		put(zero, mode, 4),
		put(zero, mode, 1, 7),
		append(put(zero[:bytesOf], mode, 1, 0, 1), 0x12, 0, 0),
		put(body, second, 0xC0),
		slices.Concat(body[:pages], []byte{0, 0}),
		slices.Concat(body[:pages], []byte{0, 1, 0, 0, 4, 128, 5, 128, 5}),
	} {
		if m := read(t, crc.Seal(b)); !bytes.Equal(snap.Put(m), crc.Seal(b)) {
			t.Errorf("% X", b)
		}
	}
}

// Machines that are none, and any bytes, end no call (P1 of DOC.md).
func TestP1AnyBytes(t *testing.T) {
	for _, none := range []*machine.Machine{nil, {}} {
		if b := snap.Put(none); len(b) != 0 {
			t.Errorf("% X", b)
		}
	}
	r := rand.New(rand.NewSource(3))
	_, body := inRow(t)
	for range 20000 {
		b := make([]byte, r.Intn(80))
		r.Read(b)
		copy(b, body[:r.Intn(len(body))])
		for range r.Intn(3) {
			if len(b) > 0 {
				b[r.Intn(len(b))] = byte(r.Intn(256))
			}
		}
		b = crc.Seal(b)
		if m, e := snap.Get(b); e != api.OK && (e != api.ErrForm || m != nil) || e == api.OK && !bytes.Equal(snap.Put(m), b) {
			t.Fatalf("Get(% X): %v, %v", b, m, e)
		}
	}
}

// The same call answers the same again, and two machines that are read have nothing in common (P2 of DOC.md).
func TestP2Again(t *testing.T) {
	_, body := inRow(t)
	b := crc.Seal(body)
	one, two := read(t, b), read(t, b)
	one.Ram().Poke(3, 1)
	one.Run(make([]api.Pins, 5)...)
	if !bytes.Equal(snap.Put(two), b) || !machine.Same(two, read(t, b)) || machine.Same(one, two) {
		t.Error("another machine was changed")
	}
}
