package decimal_test

import (
	"math"
	"math/rand"
	"slices"
	"testing"

	"spinet/adder"
	"spinet/api"
	"spinet/decimal"
)

// bcd: the byte of a number's two decimal digits.
func bcd(n int) byte { return byte(n/10*16 + n%10) }

// lifted: the byte and the codes that Daa answers, counted up one by one.
func lifted(a, cc int) (int, int) {
	steps, c := 0, 0
	if a%16 >= 10 || cc/api.H%2 == 1 {
		steps += 6
	}
	if a >= 154 || cc%2 == 1 {
		steps += 96
		c = api.C
	}
	r := a
	for range steps {
		r++
		if r == 256 {
			r = 0
		}
	}
	cc = cc&(api.E|api.F|api.H|api.I) + c
	if r > 127 {
		cc += api.N
	}
	if r == 0 {
		cc += api.Z
	}
	return r, cc
}

func TestP9_1Daa(t *testing.T) {
	for cc := range 256 {
		for a := range 256 {
			r, got := decimal.Daa(byte(a), byte(cc))
			if want, codes := lifted(a, cc); int(r) != want || int(got) != codes {
				t.Fatalf("Daa(%d, %d): %d, %d, not %d, %d", a, cc, r, got, want, codes)
			}
		}
	}
}

func TestP9_1Edges(t *testing.T) {
	cases := []struct{ a, cc, r, codes byte }{
		{154, 0, 0, api.Z | api.C},
		{153, 0, 153, api.N},
		{0x9A, api.H, 0, api.H | api.Z | api.C},
		{0x99, api.H, 0x9F, api.H | api.N},
		{0x99, api.C, 0xF9, api.N | api.C},
		{0, 0, 0, api.Z},
		{0, api.H, 6, api.H},
		{0, api.C, 0x60, api.C},
		{0, api.H | api.C, 0x66, api.H | api.C},
		{9, api.V, 9, 0},
		{10, api.V | api.N | api.Z, 16, 0},
		{0x8F, 0, 0x95, api.N},
		{0xA0, 0, 0, api.Z | api.C},
		{255, 255, 0x65, api.E | api.F | api.H | api.I | api.C},
	}
	for _, c := range cases {
		if r, codes := decimal.Daa(c.a, c.cc); r != c.r || codes != c.codes {
			t.Errorf("%v: %d, %d", c, r, codes)
		}
	}
}

// Behind a sum of two decimal bytes stands the decimal sum.
func TestP9_1DaaMends(t *testing.T) {
	for a := range 100 {
		for b := range 100 {
			for c := range 2 {
				r, cc := decimal.Daa(adder.Adc(bcd(a), bcd(b), byte(c)))
				if n := a + b + c; r != bcd(n%100) || int(cc)%2 != n/100 {
					t.Fatalf("%d and %d and %d: %X, %d", a, b, c, r, cc)
				}
			}
		}
	}
}

func TestP9_2Right(t *testing.T) {
	if !decimal.Right() || !decimal.Right([]byte{}...) {
		t.Error("of none, all are right")
	}
	for a := range 256 {
		want := a/16 <= 9 && a%16 <= 9
		x := byte(a)
		if decimal.Right(x) != want || decimal.Right(0, x) != want || decimal.Right(x, 0x99) != want || decimal.Right(1, x, 2) != want {
			t.Errorf("Right of %d: %v", a, !want)
		}
	}
}

func TestP9_2Sum(t *testing.T) {
	cases := []struct {
		a, b, want []byte
		over       bool
	}{
		{nil, nil, nil, false},
		{[]byte{}, nil, nil, false},
		{[]byte{0x19}, []byte{0x08}, []byte{0x27}, false},
		{[]byte{0x99}, []byte{0x01}, []byte{0x00}, true},
		{[]byte{0x99}, []byte{0x99}, []byte{0x98}, true},
		{[]byte{0x50}, []byte{0x49}, []byte{0x99}, false},
		{[]byte{0x00, 0x99}, []byte{0x00, 0x01}, []byte{0x01, 0x00}, false},
		{[]byte{0x99, 0x99}, []byte{0x00, 0x01}, []byte{0x00, 0x00}, true},
		{[]byte{0x12, 0x34, 0x56}, []byte{0x65, 0x43, 0x21}, []byte{0x77, 0x77, 0x77}, false},
		{[]byte{0x80, 0x00}, []byte{0x20, 0x00}, []byte{0x00, 0x00}, true},
		{[]byte{0x09, 0x08}, []byte{0x09, 0x09}, []byte{0x18, 0x17}, false},
	}
	for _, c := range cases {
		if got, over, e := decimal.Sum(c.a, c.b); !slices.Equal(got, c.want) || over != c.over || e != api.OK {
			t.Errorf("Sum(%X, %X): %X, %v, %d", c.a, c.b, got, over, e)
		}
	}
}

// number: a random decimal number of so many bytes, and its bytes.
func number(r *rand.Rand, n int) (int, []byte) {
	v, out := 0, make([]byte, n)
	for i := range out {
		x := r.Intn(100)
		v, out[i] = v*100+x, bcd(x)
	}
	return v, out
}

func TestP9_2SumOfMany(t *testing.T) {
	r := rand.New(rand.NewSource(9))
	for i := range 20000 {
		n := i % 9
		x, a := number(r, n)
		y, b := number(r, n)
		most := int(math.Pow10(2 * n))
		got, over, e := decimal.Sum(a, b)
		v := 0
		for _, z := range got {
			v = v*100 + int(z>>4)*10 + int(z&15)
		}
		if len(got) != n || !decimal.Right(got...) || v != (x+y)%most || over != (x+y >= most) || e != api.OK {
			t.Fatalf("Sum(%X, %X): %X, %v, %d", a, b, got, over, e)
		}
	}
}

func TestP9_2SumErrors(t *testing.T) {
	cases := []struct {
		a, b []byte
		e    api.Errno
	}{
		{[]byte{0x0A}, []byte{0x01}, api.ErrArg},
		{[]byte{0x01}, []byte{0xA0}, api.ErrArg},
		{[]byte{0xFF}, []byte{0xFF}, api.ErrArg},
		{[]byte{0x11, 0x1A}, []byte{0x11, 0x11}, api.ErrArg},
		{[]byte{0x11, 0x11}, []byte{0xA1, 0x11}, api.ErrArg},
		{nil, []byte{0x01}, api.ErrSize},
		{[]byte{0x01}, nil, api.ErrSize},
		{[]byte{0x01, 0x02}, []byte{0x03}, api.ErrSize},
		{[]byte{0x99}, []byte{0x99, 0x99, 0x99}, api.ErrSize},
		// Both apply: that one isn't right is named first.
		{nil, []byte{0x0A}, api.ErrArg},
		{[]byte{0x9A}, nil, api.ErrArg},
		{[]byte{0x01, 0x02}, []byte{0x0F}, api.ErrArg},
		{[]byte{0x01}, []byte{0x01, 0xF0}, api.ErrArg},
	}
	for _, c := range cases {
		if got, over, e := decimal.Sum(c.a, c.b); len(got) != 0 || over || e != c.e {
			t.Errorf("Sum(%X, %X): %X, %v, %d", c.a, c.b, got, over, e)
		}
	}
}

// What is handed in stays, and two answers share no memory (P2 of DOC.md, rule 5).
func TestP2NewMemory(t *testing.T) {
	a, b := append(make([]byte, 0, 4), 0x12, 0x99), append(make([]byte, 0, 4), 0x01, 0x01)
	first, _, _ := decimal.Sum(a, b)
	first[0], first[1] = 0xFF, 0xFF
	if second, over, e := decimal.Sum(a, b); !slices.Equal(second, []byte{0x14, 0x00}) || over || e != api.OK {
		t.Errorf("Sum a second time: %X, %v, %d", second, over, e)
	}
	if !decimal.Right(a...) || !slices.Equal(a[:4], []byte{0x12, 0x99, 0, 0}) || !slices.Equal(b[:4], []byte{0x01, 0x01, 0, 0}) {
		t.Errorf("what was given has changed: %X, %X", a[:4], b[:4])
	}
}
