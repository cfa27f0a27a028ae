package times_test

import (
	"math/rand"
	"testing"

	"spinet/api"
	"spinet/times"
)

func TestP10_1Mul(t *testing.T) {
	for a := range 256 {
		product := 0
		for b := range 256 {
			on := 0
			if product == 0 {
				on += api.Z
			}
			if product%256 > 127 {
				on += api.C
			}
			for _, cc := range []int{0, 255, api.Z, api.C, 85, 170} {
				codes := cc&^(api.Z|api.C) + on
				if p, got := times.Mul(byte(a), byte(b), byte(cc)); int(p) != product || int(got) != codes {
					t.Fatalf("Mul(%d, %d, %d): %d, %d, not %d, %d", a, b, cc, p, got, product, codes)
				}
			}
			product += a
		}
	}
}

func TestP10_1MulEdges(t *testing.T) {
	cases := []struct {
		a, b, cc byte
		p        uint16
		codes    byte
	}{
		{255, 255, 0, 65025, 0},
		{255, 255, 255, 65025, 255 - api.Z - api.C},
		{0, 255, 0, 0, api.Z},
		{0, 0, 255, 0, 255 - api.C},
		{16, 16, 0, 256, 0},
		{16, 8, api.N | api.V, 128, api.N | api.V | api.C},
		{1, 127, api.H, 127, api.H},
		{1, 128, 0, 128, api.C},
		{255, 1, api.Z, 255, api.C},
	}
	for _, c := range cases {
		if p, codes := times.Mul(c.a, c.b, c.cc); p != c.p || codes != c.codes {
			t.Errorf("%v: %d, %d", c, p, codes)
		}
	}
	for cc := range 256 {
		if p, codes := times.Mul(3, 100, byte(cc)); p != 300 || int(codes) != cc&^(api.Z|api.C) {
			t.Errorf("Mul(3, 100, %d): %d, %d", cc, p, codes)
		}
	}
}

func TestP10_1Round(t *testing.T) {
	for a := range 256 {
		for b := range 256 {
			product, nearest := a*b, 0
			for 256*(nearest+1)-product <= product-256*nearest {
				nearest++
			}
			if got := times.Round(byte(a), byte(b)); int(got) != nearest {
				t.Fatalf("Round(%d, %d): %d, not %d", a, b, got, nearest)
			}
		}
	}
	cases := []struct{ a, b, want byte }{
		{0, 0, 0}, {1, 127, 0}, {1, 128, 1}, {16, 24, 2}, {3, 127, 1}, {3, 128, 2}, {255, 255, 254}, {255, 1, 1}, {16, 16, 1},
	}
	for _, c := range cases {
		if got := times.Round(c.a, c.b); got != c.want {
			t.Errorf("Round(%d, %d): %d, not %d", c.a, c.b, got, c.want)
		}
	}
}

// long: the product, as it is reckoned on paper to the base 2.
func long(x, y uint16) uint32 {
	var p uint32
	for i := range 16 {
		if y>>i%2 == 1 {
			p += uint32(x) << i
		}
	}
	return p
}

func TestP10_1Wide(t *testing.T) {
	ends := []uint16{0, 1, 2, 127, 128, 255, 256, 257, 511, 32767, 32768, 65279, 65280, 65281, 65534, 65535}
	for _, x := range ends {
		for _, y := range ends {
			if got := times.Wide(x, y); got != long(x, y) {
				t.Errorf("Wide(%d, %d): %d, not %d", x, y, got, long(x, y))
			}
		}
	}
	r := rand.New(rand.NewSource(10))
	for range 100000 {
		x, y := uint16(r.Uint32()), uint16(r.Uint32())
		if got := times.Wide(x, y); got != long(x, y) {
			t.Fatalf("Wide(%d, %d): %d, not %d", x, y, got, long(x, y))
		}
	}
	if times.Wide(65535, 65535) != 4294836225 || times.Wide(256, 256) != 65536 || times.Wide(0x1234, 0x5678) != 0x06260060 {
		t.Error("Wide")
	}
}
