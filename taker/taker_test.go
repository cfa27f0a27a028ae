package taker_test

import (
	"math/rand"
	"slices"
	"testing"

	"spinet/api"
	"spinet/taker"
)

// ripple: the difference, and the codes, as a row of takers of one bit makes them.
func ripple(a, b, borrow, cc int) (int, int) {
	diff, into, out := 0, 0, borrow
	for i := range 8 {
		d := a>>i%2 - b>>i%2 - out
		into, out = out, 0
		if d < 0 {
			d += 2
			out = 1
		}
		diff += d << i
	}
	z := 0
	if diff == 0 {
		z = 1
	}
	cc -= cc & (api.N | api.Z | api.V | api.C)
	return diff, cc + diff>>7*api.N + z*api.Z + (into^out)*api.V + out*api.C
}

func TestP5_1SubSbcCmp(t *testing.T) {
	for cc := range 256 {
		for a := range 256 {
			for b := range 256 {
				r, got := taker.Sub(byte(a), byte(b), byte(cc))
				diff, want := ripple(a, b, 0, cc)
				if int(r) != diff || int(got) != want {
					t.Fatalf("Sub(%d, %d, %d): %d, %d, not %d, %d", a, b, cc, r, got, diff, want)
				}
				if got = taker.Cmp(byte(a), byte(b), byte(cc)); int(got) != want {
					t.Fatalf("Cmp(%d, %d, %d): %d, not %d", a, b, cc, got, want)
				}
				r, got = taker.Sbc(byte(a), byte(b), byte(cc))
				if diff, want := ripple(a, b, cc%2, cc); int(r) != diff || int(got) != want {
					t.Fatalf("Sbc(%d, %d, %d): %d, %d, not %d, %d", a, b, cc, r, got, diff, want)
				}
			}
		}
	}
}

func TestP5_1Neg(t *testing.T) {
	for cc := range 256 {
		for a := range 256 {
			r, got := taker.Neg(byte(a), byte(cc))
			if diff, want := ripple(0, a, 0, cc); int(r) != diff || int(got) != want {
				t.Fatalf("Neg(%d, %d): %d, %d, not %d, %d", a, cc, r, got, diff, want)
			}
		}
	}
	cases := []struct{ a, cc, r, codes byte }{
		{0, 0, 0, api.Z},
		{0, 255, 0, api.E | api.F | api.H | api.I | api.Z},
		{1, 0, 255, api.N | api.C},
		{1, api.C, 255, api.N | api.C},
		{127, 0, 129, api.N | api.C},
		{128, 0, 128, api.N | api.V | api.C},
		{129, api.H, 127, api.H | api.C},
		{255, 0, 1, api.C},
	}
	for _, c := range cases {
		if r, codes := taker.Neg(c.a, c.cc); r != c.r || codes != c.codes {
			t.Errorf("%v: %d, %d", c, r, codes)
		}
	}
}

func TestP5_1Edges(t *testing.T) {
	cases := []struct {
		a, b, cc byte
		sbc      bool
		diff     byte
		codes    byte
	}{
		{0, 1, 0, false, 255, api.N | api.C},
		{0, 0, 0, false, 0, api.Z},
		{0, 0, 255, false, 0, api.E | api.F | api.H | api.I | api.Z},
		{128, 1, 0, false, 127, api.V},
		{127, 255, 0, false, 128, api.N | api.V | api.C},
		{0, 128, 0, false, 128, api.N | api.V | api.C},
		{255, 127, 0, false, 128, api.N},
		{16, 1, api.H, false, 15, api.H},
		{16, 1, 0, false, 15, 0},
		{5, 4, api.C, false, 1, 0},
		{5, 4, api.C, true, 0, api.Z},
		{0, 255, api.C, true, 0, api.Z | api.C},
		{0, 0, api.C, true, 255, api.N | api.C},
		{128, 0, api.C, true, 127, api.V},
		{127, 255, api.C, true, 127, api.C},
		{127, 128, api.C, true, 254, api.N | api.V | api.C},
	}
	for _, c := range cases {
		call := taker.Sub
		if c.sbc {
			call = taker.Sbc
		}
		if diff, codes := call(c.a, c.b, c.cc); diff != c.diff || codes != c.codes {
			t.Errorf("%v: %d, %d", c, diff, codes)
		}
	}
}

func TestP5_2Chain(t *testing.T) {
	cases := []struct {
		a, b  []byte
		cc    byte
		want  []byte
		codes byte
	}{
		{nil, nil, 0, nil, 0},
		{nil, []byte{}, 255, nil, 255},
		{[]byte{}, nil, api.C | api.N, nil, api.C | api.N},
		{[]byte{0}, []byte{1}, 0, []byte{255}, api.N | api.C},
		// The last pair is subtracted without C, whatever it was.
		{[]byte{1}, []byte{1}, api.C, []byte{0}, api.Z},
		{[]byte{1, 0}, []byte{0, 1}, api.H, []byte{0, 255}, api.H | api.Z},
		{[]byte{0, 0, 0}, []byte{0, 0, 1}, api.E, []byte{255, 255, 255}, api.E | api.N | api.C},
		{[]byte{128, 0}, []byte{0, 1}, 0, []byte{127, 255}, api.V},
		{[]byte{3, 2, 1}, []byte{1, 2, 3}, api.C, []byte{1, 255, 254}, 0},
	}
	for _, c := range cases {
		if got, codes, e := taker.Chain(c.a, c.b, c.cc); !slices.Equal(got, c.want) || codes != c.codes || e != api.OK {
			t.Errorf("%v: %v, %d, %d", c, got, codes, e)
		}
	}
}

func TestP5_2ChainOfMany(t *testing.T) {
	r := rand.New(rand.NewSource(5))
	for n := range 200 {
		a, b := make([]byte, n), make([]byte, n)
		r.Read(a)
		r.Read(b)
		first := byte(r.Intn(256))
		want, codes, borrow := make([]byte, n), int(first), 0
		for i := n - 1; i >= 0; i-- {
			var diff int
			diff, codes = ripple(int(a[i]), int(b[i]), borrow, codes)
			want[i], borrow = byte(diff), codes%2
		}
		if got, cc, e := taker.Chain(a, b, first); !slices.Equal(got, want) || int(cc) != codes || e != api.OK {
			t.Fatalf("Chain(%v, %v, %d): %v, %d, %d", a, b, first, got, cc, e)
		}
	}
}

func TestP5_2ChainErrors(t *testing.T) {
	cases := [][2][]byte{
		{nil, {1}}, {{1}, nil}, {{}, {0}}, {{1, 2}, {1}}, {{1}, {1, 2}}, {{1, 2, 3}, make([]byte, 1000)},
	}
	for _, c := range cases {
		for _, cc := range []byte{0, 255} {
			if got, codes, e := taker.Chain(c[0], c[1], cc); len(got) != 0 || codes != 0 || e != api.ErrSize {
				t.Errorf("Chain(%v, %v, %d): %v, %d, %d", c[0], c[1], cc, got, codes, e)
			}
		}
	}
}

// What is handed in stays, and two answers share no memory (P2 of DOC.md, rule 5).
func TestP2NewMemory(t *testing.T) {
	a, b := append(make([]byte, 0, 4), 5, 0), append(make([]byte, 0, 4), 2, 1)
	first, _, _ := taker.Chain(a, b, 0)
	first[0], first[1] = 9, 9
	if second, cc, e := taker.Chain(a, b, 0); !slices.Equal(second, []byte{2, 255}) || cc != 0 || e != api.OK {
		t.Errorf("Chain a second time: %v, %d, %d", second, cc, e)
	}
	if !slices.Equal(a[:4], []byte{5, 0, 0, 0}) || !slices.Equal(b[:4], []byte{2, 1, 0, 0}) {
		t.Errorf("Chain changed what it was given: %v, %v", a[:4], b[:4])
	}
	if got, _, _ := taker.Chain(a, a, 0); !slices.Equal(got, []byte{0, 0}) || a[0] != 5 {
		t.Errorf("Chain of a row and itself: %v, %v", got, a)
	}
}
