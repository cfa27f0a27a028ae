package adder_test

import (
	"math/rand"
	"slices"
	"testing"

	"spinet/adder"
	"spinet/api"
)

// ripple: the sum, and the codes, as a row of adders of one bit makes them.
func ripple(a, b, carry, cc int) (int, int) {
	sum, h, into, out := 0, 0, 0, carry
	for i := range 8 {
		s := a>>i%2 + b>>i%2 + out
		sum += s % 2 << i
		into, out = out, s/2
		if i == 3 {
			h = out
		}
	}
	z := 0
	if sum == 0 {
		z = 1
	}
	cc -= cc & (api.H | api.N | api.Z | api.V | api.C)
	return sum, cc + h*api.H + sum>>7*api.N + z*api.Z + (into^out)*api.V + out*api.C
}

func TestP4_1AddAdc(t *testing.T) {
	for cc := range 256 {
		for a := range 256 {
			for b := range 256 {
				r, got := adder.Add(byte(a), byte(b), byte(cc))
				if sum, want := ripple(a, b, 0, cc); int(r) != sum || int(got) != want {
					t.Fatalf("Add(%d, %d, %d): %d, %d, not %d, %d", a, b, cc, r, got, sum, want)
				}
				r, got = adder.Adc(byte(a), byte(b), byte(cc))
				if sum, want := ripple(a, b, cc%2, cc); int(r) != sum || int(got) != want {
					t.Fatalf("Adc(%d, %d, %d): %d, %d, not %d, %d", a, b, cc, r, got, sum, want)
				}
			}
		}
	}
}

func TestP4_1Edges(t *testing.T) {
	cases := []struct {
		a, b, cc byte
		adc      bool
		sum      byte
		codes    byte
	}{
		{127, 1, 0, false, 128, api.H | api.N | api.V},
		{0, 0, 0, false, 0, api.Z},
		{0, 0, 255, false, 0, api.E | api.F | api.I | api.Z},
		{255, 1, 0, false, 0, api.H | api.Z | api.C},
		{128, 128, 0, false, 0, api.Z | api.V | api.C},
		{128, 255, 0, false, 127, api.V | api.C},
		{15, 0, api.C, false, 15, 0},
		{15, 0, api.C, true, 16, api.H},
		{8, 7, 0, true, 15, 0},
		{127, 0, api.C, true, 128, api.H | api.N | api.V},
		{255, 0, api.C, true, 0, api.H | api.Z | api.C},
		{255, 255, api.C, true, 255, api.H | api.N | api.C},
		{128, 255, api.C, true, 128, api.H | api.N | api.C},
		{1, 2, api.E | api.F | api.I, true, 3, api.E | api.F | api.I},
	}
	for _, c := range cases {
		call := adder.Add
		if c.adc {
			call = adder.Adc
		}
		if sum, codes := call(c.a, c.b, c.cc); sum != c.sum || codes != c.codes {
			t.Errorf("%v: %d, %d", c, sum, codes)
		}
	}
}

func TestP4_2Chain(t *testing.T) {
	cases := []struct {
		a, b  []byte
		cc    byte
		want  []byte
		codes byte
	}{
		{nil, nil, 0, nil, 0},
		{nil, []byte{}, 255, nil, 255},
		{[]byte{}, nil, api.C | api.N, nil, api.C | api.N},
		{[]byte{127}, []byte{1}, 0, []byte{128}, api.H | api.N | api.V},
		// The last pair is added without C, whatever it was.
		{[]byte{1}, []byte{1}, api.C, []byte{2}, 0},
		{[]byte{0, 255}, []byte{0, 1}, 0, []byte{1, 0}, 0},
		{[]byte{255, 255}, []byte{0, 1}, api.E, []byte{0, 0}, api.E | api.H | api.Z | api.C},
		{[]byte{255, 255, 255}, []byte{255, 255, 255}, api.C, []byte{255, 255, 254}, api.H | api.N | api.C},
		{[]byte{1, 128, 128}, []byte{2, 127, 128}, api.F, []byte{4, 0, 0}, api.F},
		// Z is that of the pair that was added last, the first one.
		{[]byte{0, 1}, []byte{0, 1}, 0, []byte{0, 2}, api.Z},
	}
	for _, c := range cases {
		if got, codes, e := adder.Chain(c.a, c.b, c.cc); !slices.Equal(got, c.want) || codes != c.codes || e != api.OK {
			t.Errorf("%v: %v, %d, %d", c, got, codes, e)
		}
	}
}

func TestP4_2ChainOfMany(t *testing.T) {
	r := rand.New(rand.NewSource(4))
	for n := range 200 {
		a, b := make([]byte, n), make([]byte, n)
		r.Read(a)
		r.Read(b)
		first := byte(r.Intn(256))
		want, codes, carry := make([]byte, n), int(first), 0
		for i := n - 1; i >= 0; i-- {
			var sum int
			sum, codes = ripple(int(a[i]), int(b[i]), carry, codes)
			want[i], carry = byte(sum), codes%2
		}
		if got, cc, e := adder.Chain(a, b, first); !slices.Equal(got, want) || int(cc) != codes || e != api.OK {
			t.Fatalf("Chain(%v, %v, %d): %v, %d, %d", a, b, first, got, cc, e)
		}
	}
}

func TestP4_2ChainErrors(t *testing.T) {
	cases := [][2][]byte{
		{nil, {1}}, {{1}, nil}, {{}, {0}}, {{1, 2}, {1}}, {{1}, {1, 2}}, {{1, 2, 3}, make([]byte, 1000)},
	}
	for _, c := range cases {
		for _, cc := range []byte{0, 255} {
			if got, codes, e := adder.Chain(c[0], c[1], cc); len(got) != 0 || codes != 0 || e != api.ErrSize {
				t.Errorf("Chain(%v, %v, %d): %v, %d, %d", c[0], c[1], cc, got, codes, e)
			}
		}
	}
}

// What is handed in stays, and two answers share no memory (P2 of DOC.md, rule 5).
func TestP2NewMemory(t *testing.T) {
	a, b := append(make([]byte, 0, 4), 1, 255), append(make([]byte, 0, 4), 2, 1)
	first, _, _ := adder.Chain(a, b, 0)
	first[0], first[1] = 9, 9
	if second, cc, e := adder.Chain(a, b, 0); !slices.Equal(second, []byte{4, 0}) || cc != 0 || e != api.OK {
		t.Errorf("Chain a second time: %v, %d, %d", second, cc, e)
	}
	if !slices.Equal(a[:4], []byte{1, 255, 0, 0}) || !slices.Equal(b[:4], []byte{2, 1, 0, 0}) {
		t.Errorf("Chain changed what it was given: %v, %v", a[:4], b[:4])
	}
	if got, _, _ := adder.Chain(a, a, 0); !slices.Equal(got, []byte{3, 254}) || a[1] != 255 {
		t.Errorf("Chain of a row and itself: %v, %v", got, a)
	}
}
