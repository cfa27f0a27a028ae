package wide_test

import (
	"math/rand"
	"testing"

	"spinet/api"
	"spinet/wide"
)

// codes: N, Z of a word, and V, C as they are told; all others stay.
func codes(cc, w, v, c int) int {
	cc = cc&(api.E|api.F|api.H|api.I) + w>>15*api.N + v*api.V + c*api.C
	if w == 0 {
		cc += api.Z
	}
	return cc
}

// sum: two words', and the codes, as a row of adders of one bit makes them.
func sum(a, b, cc int) (int, int) {
	w, into, out := 0, 0, 0
	for i := range 16 {
		s := a>>i%2 + b>>i%2 + out
		w += s % 2 << i
		into, out = out, s/2
	}
	return w, codes(cc, w, into^out, out)
}

// difference: two words', and the codes, as a row of takers of one bit makes them.
func difference(a, b, cc int) (int, int) {
	w, into, out := 0, 0, 0
	for i := range 16 {
		d := a>>i%2 - b>>i%2 - out
		into, out = out, 0
		if d < 0 {
			d += 2
			out = 1
		}
		w += d << i
	}
	return w, codes(cc, w, into^out, out)
}

// check: Add, Sub and Cmp of two words.
func check(t *testing.T, a, b, cc int) {
	t.Helper()
	w, got := wide.Add(uint16(a), uint16(b), byte(cc))
	if want, on := sum(a, b, cc); int(w) != want || int(got) != on {
		t.Fatalf("Add(%d, %d, %d): %d, %d, not %d, %d", a, b, cc, w, got, want, on)
	}
	w, got = wide.Sub(uint16(a), uint16(b), byte(cc))
	want, on := difference(a, b, cc)
	if int(w) != want || int(got) != on {
		t.Fatalf("Sub(%d, %d, %d): %d, %d, not %d, %d", a, b, cc, w, got, want, on)
	}
	if got = wide.Cmp(uint16(a), uint16(b), byte(cc)); int(got) != on {
		t.Fatalf("Cmp(%d, %d, %d): %d, not %d", a, b, cc, got, on)
	}
}

func TestP11_1AddSubCmp(t *testing.T) {
	ends := []int{0, 1, 2, 15, 16, 127, 128, 255, 256, 4095, 4096, 32766, 32767, 32768, 32769, 65280, 65534, 65535}
	for cc := range 256 {
		for _, a := range ends {
			for _, b := range ends {
				check(t, a, b, cc)
			}
		}
	}
	for a := range 65536 {
		for _, b := range []int{0, 1, 255, 256, 32767, 32768, 65535} {
			check(t, a, b, a%256)
		}
	}
	r := rand.New(rand.NewSource(11))
	for range 200000 {
		check(t, r.Intn(65536), r.Intn(65536), r.Intn(256))
	}
}

func TestP11_1Edges(t *testing.T) {
	cases := []struct {
		name  string
		call  func(a, b uint16, cc byte) (uint16, byte)
		a, b  uint16
		cc    byte
		w     uint16
		codes byte
	}{
		{"Add", wide.Add, 32767, 1, 0, 32768, api.N | api.V},
		{"Add", wide.Add, 65535, 1, 0, 0, api.Z | api.C},
		{"Add", wide.Add, 32768, 32768, api.H, 0, api.H | api.Z | api.V | api.C},
		{"Add", wide.Add, 15, 1, 0, 16, 0},
		{"Add", wide.Add, 1, 1, api.C, 2, 0},
		{"Add", wide.Add, 0, 128, 255, 128, api.E | api.F | api.H | api.I},
		{"Sub", wide.Sub, 0, 1, 0, 65535, api.N | api.C},
		{"Sub", wide.Sub, 32768, 1, 0, 32767, api.V},
		{"Sub", wide.Sub, 32767, 65535, 0, 32768, api.N | api.V | api.C},
		{"Sub", wide.Sub, 5, 5, api.C, 0, api.Z},
		{"Sub", wide.Sub, 256, 1, 255, 255, api.E | api.F | api.H | api.I},
	}
	for _, c := range cases {
		w, codes := c.call(c.a, c.b, c.cc)
		if w != c.w || codes != c.codes {
			t.Errorf("%s(%d, %d, %d): %d, %d", c.name, c.a, c.b, c.cc, w, codes)
		}
		if c.name == "Sub" && wide.Cmp(c.a, c.b, c.cc) != codes {
			t.Errorf("Cmp(%d, %d, %d): %d", c.a, c.b, c.cc, wide.Cmp(c.a, c.b, c.cc))
		}
	}
}

func TestP11_2TstLea(t *testing.T) {
	for n := range 65536 {
		w := uint16(n)
		for _, cc := range []int{0, 255, api.V, api.Z, 85, 170} {
			if got := wide.Tst(w, byte(cc)); int(got) != codes(cc, n, 0, cc%2) {
				t.Fatalf("Tst(%d, %d): %d", n, cc, got)
			}
			lea := cc &^ api.Z
			if n == 0 {
				lea += api.Z
			}
			if got := wide.Lea(w, byte(cc)); int(got) != lea {
				t.Fatalf("Lea(%d, %d): %d", n, cc, got)
			}
		}
	}
	for cc := range 256 {
		for _, n := range []int{0, 1, 128, 256, 32767, 32768, 65535} {
			if got := wide.Tst(uint16(n), byte(cc)); int(got) != codes(cc, n, 0, cc%2) {
				t.Errorf("Tst(%d, %d): %d", n, cc, got)
			}
		}
		if wide.Lea(0, byte(cc)) != byte(cc|api.Z) || wide.Lea(32768, byte(cc)) != byte(cc&^api.Z) || wide.Lea(256, byte(cc)) != byte(cc&^api.Z) {
			t.Errorf("Lea, of the codes %d", cc)
		}
	}
}

func TestP11_2Sex(t *testing.T) {
	for cc := range 256 {
		for b := range 256 {
			want := b
			if b > 127 {
				want += 65280
			}
			if w, got := wide.Sex(byte(b), byte(cc)); int(w) != want || int(got) != codes(cc, want, cc/api.V%2, cc%2) {
				t.Fatalf("Sex(%d, %d): %d, %d", b, cc, w, got)
			}
		}
	}
	if w, cc := wide.Sex(200, 0); w != 65480 || cc != api.N {
		t.Errorf("Sex(200, 0): %d, %d", w, cc)
	}
	if w, cc := wide.Sex(0, 255); w != 0 || cc != 255-api.N {
		t.Errorf("Sex(0, 255): %d, %d", w, cc)
	}
	if w, cc := wide.Sex(127, api.V|api.N); w != 127 || cc != api.V {
		t.Errorf("Sex(127, 10): %d, %d", w, cc)
	}
}

func TestP11_2Abx(t *testing.T) {
	for n := range 65536 {
		for _, b := range []int{0, 1, 127, 128, 255} {
			want := n + b
			if want > 65535 {
				want -= 65536
			}
			if got := wide.Abx(uint16(n), byte(b)); int(got) != want {
				t.Fatalf("Abx(%d, %d): %d", n, b, got)
			}
		}
	}
	for b := range 256 {
		if got := wide.Abx(65535, byte(b)); int(got) != (65535+b)%65536 {
			t.Errorf("Abx(65535, %d): %d", b, got)
		}
	}
}
