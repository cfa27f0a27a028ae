package crc_test

import (
	"bytes"
	"math/rand"
	"slices"
	"strings"
	"testing"

	"spinet/crc"
)

// divided: the sum as what is left of a division: the bits of all bytes, and 16 that are 0, the first 16 of them xored with the sum that was there, over 1 0001 0000 0010 0001.
func divided(sum uint16, b []byte) uint16 {
	var bits []bool
	for _, x := range append(slices.Clone(b), 0, 0) {
		for i := 7; i >= 0; i-- {
			bits = append(bits, x>>i&1 == 1)
		}
	}
	for i := range 16 {
		if sum>>(15-i)&1 == 1 {
			bits[i] = !bits[i]
		}
	}
	for i := range len(bits) - 16 {
		if !bits[i] {
			continue
		}
		for _, at := range []int{0, 4, 11, 16} {
			bits[i+at] = !bits[i+at]
		}
	}
	var out uint16
	for _, on := range bits[len(bits)-16:] {
		out *= 2
		if on {
			out++
		}
	}
	return out
}

func noise(r *rand.Rand, n int) []byte {
	out := make([]byte, n)
	r.Read(out)
	return out
}

func TestP36_1Poly(t *testing.T) {
	if crc.Poly != 0x1021 {
		t.Errorf("%X", crc.Poly)
	}
}

// Sums of bytes that are known elsewhere.
func TestP36_1Known(t *testing.T) {
	for _, c := range []struct {
		sum  uint16
		b    string
		want uint16
	}{
		{0xFFFF, "", 0xFFFF},
		{0xFFFF, "123456789", 10673},
		{0xFFFF, "A", 0xB915},
		{0xFFFF, strings.Repeat("A", 256), 0xEA0B},
		{0xFFFF, "\x00", 0xE1F0},
		{0, "123456789", 0x31C3},
		{0, "", 0},
		{0, "\x00\x00\x00", 0},
		{0, "\x01", 0x1021},
		{0, "\x80", 0x9188},
		{0x1234, "", 0x1234},
		{0x1D0F, "123456789", 0xE5CC},
	} {
		if got := crc.On(c.sum, []byte(c.b)...); got != c.want {
			t.Errorf("On(%04X, %q): %04X, not %04X", c.sum, c.b, got, c.want)
		}
		if c.sum != 0xFFFF {
			continue
		}
		if got := crc.Of([]byte(c.b)...); got != c.want {
			t.Errorf("Of(%q): %04X, not %04X", c.b, got, c.want)
		}
	}
}

func TestP36_1Division(t *testing.T) {
	r := rand.New(rand.NewSource(1))
	for sum := range 65536 {
		b := byte(r.Intn(256))
		if got, want := crc.On(uint16(sum), b), divided(uint16(sum), []byte{b}); got != want {
			t.Fatalf("On(%04X, %02X): %04X, not %04X", sum, b, got, want)
		}
	}
	for n := range 300 {
		sum, b := uint16(r.Intn(65536)), noise(r, n)
		kept := slices.Clone(b)
		if got, want := crc.On(sum, b...), divided(sum, b); got != want {
			t.Fatalf("On(%04X, % X): %04X, not %04X", sum, b, got, want)
		}
		if got, want := crc.Of(b...), divided(65535, b); got != want {
			t.Fatalf("Of(% X): %04X, not %04X", b, got, want)
		}
		if !bytes.Equal(b, kept) {
			t.Fatal("the bytes have changed")
		}
	}
}

// A sum goes on, wherever the bytes are cut.
func TestP36_1GoesOn(t *testing.T) {
	b := noise(rand.New(rand.NewSource(2)), 40)
	for n := range len(b) + 1 {
		if got := crc.On(crc.Of(b[:n]...), b[n:]...); got != crc.Of(b...) {
			t.Errorf("cut at %d: %04X, not %04X", n, got, crc.Of(b...))
		}
	}
}

func TestP36_2Seal(t *testing.T) {
	r := rand.New(rand.NewSource(3))
	for n := range 300 {
		// There is room behind them, which isn't Seal's.
		b := noise(r, n+9)[:n]
		kept := slices.Clone(b[:n+9])
		got := crc.Seal(b)
		sum := divided(65535, b)
		if want := append(slices.Clone(b), byte(sum/256), byte(sum%256)); !bytes.Equal(got, want) {
			t.Fatalf("Seal(% X): % X, not % X", b, got, want)
		}
		clear(got)
		if !bytes.Equal(b[:n+9], kept) {
			t.Fatal("Seal keeps, or changes, what it is given")
		}
	}
	if got := crc.Seal([]byte("123456789")); string(got) != "123456789\x29\xB1" {
		t.Errorf("% X", got)
	}
	if got := crc.Seal(nil); string(got) != "\xFF\xFF" {
		t.Errorf("% X", got)
	}
}

func TestP36_2Open(t *testing.T) {
	r := rand.New(rand.NewSource(4))
	for n := range 300 {
		b := noise(r, n)
		sealed := crc.Seal(b)
		kept := slices.Clone(sealed)
		got, ok := crc.Open(sealed)
		if !ok || !bytes.Equal(got, b) {
			t.Fatalf("Open(% X): % X, %v", sealed, got, ok)
		}
		clear(got)
		_ = append(got, 1, 2, 3)
		if !bytes.Equal(sealed, kept) {
			t.Fatal("what Open tells is a part of what it is given")
		}
	}
}

func refused(t *testing.T, b []byte) {
	t.Helper()
	if got, ok := crc.Open(b); ok || len(got) != 0 {
		t.Errorf("Open(% X): % X, %v", b, got, ok)
	}
}

func TestP36_2OpenOfOthers(t *testing.T) {
	refused(t, nil)
	refused(t, []byte{})
	for x := range 256 {
		refused(t, []byte{byte(x)})
	}
	for x := range 65536 {
		if x == 0xFFFF {
			continue
		}
		refused(t, []byte{byte(x / 256), byte(x % 256)})
	}
	sealed := crc.Seal([]byte("123456789"))
	for at := range sealed {
		for x := range 255 {
			b := slices.Clone(sealed)
			b[at] += byte(x + 1)
			refused(t, b)
		}
		refused(t, sealed[:at])
	}
	// The low byte of the sum first.
	refused(t, []byte("123456789\xB1\x29"))
	refused(t, append(sealed, 1))
	refused(t, []byte("123456789"))
}

// The same call answers the same again, whatever was called between (P2 of DOC.md).
func TestP2Again(t *testing.T) {
	b := []byte("123456789")
	for range 3 {
		if crc.Of(b...) != 10673 || crc.On(0, b...) != 0x31C3 || string(crc.Seal(b[:1])) != "1\xC7\x82" {
			t.Errorf("%04X, %04X, % X", crc.Of(b...), crc.On(0, b...), crc.Seal(b[:1]))
		}
	}
}
