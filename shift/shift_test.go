package shift_test

import (
	"testing"

	"spinet/api"
	"spinet/shift"
)

// one: 1 if that is so, or 0.
func one(so bool) int {
	if so {
		return 1
	}
	return 0
}

// is: does the call answer this byte, and of the codes named these, all others as they were?
func is(t *testing.T, name string, call func(a, cc byte) (byte, byte), a, cc, want, named, on int) {
	t.Helper()
	on += one(want > 127)*api.N + one(want == 0)*api.Z
	codes := cc&^(named|api.N|api.Z) + on
	if r, got := call(byte(a), byte(cc)); int(r) != want || int(got) != codes {
		t.Fatalf("%s(%d, %d): %d, %d, not %d, %d", name, a, cc, r, got, want, codes)
	}
}

func TestP7_1LsrAsrRor(t *testing.T) {
	for cc := range 256 {
		for a := range 256 {
			odd := a % 2 * api.C
			is(t, "Lsr", shift.Lsr, a, cc, a/2, api.C, odd)
			is(t, "Asr", shift.Asr, a, cc, a/2+128*one(a > 127), api.C, odd)
			is(t, "Ror", shift.Ror, a, cc, a/2+128*(cc%2), api.C, odd)
		}
	}
}

func TestP7_2AslRol(t *testing.T) {
	for cc := range 256 {
		for a := range 256 {
			on := one(a > 127)*api.C + one(a > 63 && a < 192)*api.V
			is(t, "Asl", shift.Asl, a, cc, a*2%256, api.V|api.C, on)
			is(t, "Rol", shift.Rol, a, cc, a*2%256+cc%2, api.V|api.C, on)
		}
	}
}

func TestP7Edges(t *testing.T) {
	cases := []struct {
		name            string
		call            func(a, cc byte) (byte, byte)
		a, cc, r, codes byte
	}{
		{"Asl", shift.Asl, 64, 0, 128, api.N | api.V},
		{"Asl", shift.Asl, 128, 0, 0, api.Z | api.V | api.C},
		{"Asl", shift.Asl, 192, api.H | api.V, 128, api.H | api.N | api.C},
		{"Asl", shift.Asl, 0, 255, 0, 255 - api.N - api.V - api.C},
		{"Rol", shift.Rol, 128, api.C, 1, api.V | api.C},
		{"Rol", shift.Rol, 0, api.C, 1, 0},
		{"Rol", shift.Rol, 128, 0, 0, api.Z | api.V | api.C},
		{"Lsr", shift.Lsr, 1, api.V | api.N, 0, api.V | api.Z | api.C},
		{"Lsr", shift.Lsr, 255, api.C, 127, api.C},
		{"Lsr", shift.Lsr, 0, api.C, 0, api.Z},
		{"Asr", shift.Asr, 128, 0, 192, api.N},
		{"Asr", shift.Asr, 255, api.V, 255, api.V | api.N | api.C},
		{"Asr", shift.Asr, 127, 0, 63, api.C},
		{"Asr", shift.Asr, 1, 0, 0, api.Z | api.C},
		{"Ror", shift.Ror, 0, api.C, 128, api.N},
		{"Ror", shift.Ror, 1, 0, 0, api.Z | api.C},
		{"Ror", shift.Ror, 1, 255, 128, 255 - api.Z},
	}
	for _, c := range cases {
		if r, codes := c.call(c.a, c.cc); r != c.r || codes != c.codes {
			t.Errorf("%s(%d, %d): %d, %d", c.name, c.a, c.cc, r, codes)
		}
	}
}

// Nine turns of eight bits and C bring a byte and C back.
func TestP7Turns(t *testing.T) {
	for a := range 256 {
		for c := range 2 {
			left, ccl := byte(a), byte(c)
			right, ccr := byte(a), byte(c)
			for range 9 {
				left, ccl = shift.Rol(left, ccl)
				right, ccr = shift.Ror(right, ccr)
			}
			if int(left) != a || int(ccl)%2 != c || int(right) != a || int(ccr)%2 != c {
				t.Fatalf("%d, %d: %d, %d to the left, %d, %d to the right", a, c, left, ccl, right, ccr)
			}
		}
	}
}
