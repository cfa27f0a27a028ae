package count_test

import (
	"testing"

	"spinet/api"
	"spinet/count"
)

// codes: those behind a result: N, Z, V; all others stay.
func codes(cc, r int, v bool) int {
	cc -= cc & (api.N | api.Z | api.V)
	if r > 127 {
		cc += api.N
	}
	if r == 0 {
		cc += api.Z
	}
	if v {
		cc += api.V
	}
	return cc
}

func TestP8_1IncDec(t *testing.T) {
	for cc := range 256 {
		for a := range 256 {
			up, down := a+1, a-1
			if up == 256 {
				up = 0
			}
			if down < 0 {
				down = 255
			}
			if r, got := count.Inc(byte(a), byte(cc)); int(r) != up || int(got) != codes(cc, up, a == 127) {
				t.Fatalf("Inc(%d, %d): %d, %d", a, cc, r, got)
			}
			if r, got := count.Dec(byte(a), byte(cc)); int(r) != down || int(got) != codes(cc, down, a == 128) {
				t.Fatalf("Dec(%d, %d): %d, %d", a, cc, r, got)
			}
		}
	}
}

func TestP8_1Edges(t *testing.T) {
	cases := []struct {
		name            string
		call            func(a, cc byte) (byte, byte)
		a, cc, r, codes byte
	}{
		{"Dec", count.Dec, 128, 0, 127, api.V},
		{"Dec", count.Dec, 0, 0, 255, api.N},
		{"Dec", count.Dec, 1, 0, 0, api.Z},
		{"Dec", count.Dec, 1, 255, 0, 255 - api.N - api.V},
		{"Dec", count.Dec, 127, api.V | api.C, 126, api.C},
		{"Dec", count.Dec, 129, 0, 128, api.N},
		{"Inc", count.Inc, 127, 0, 128, api.N | api.V},
		{"Inc", count.Inc, 255, 0, 0, api.Z},
		{"Inc", count.Inc, 255, api.C, 0, api.Z | api.C},
		{"Inc", count.Inc, 15, api.Z, 16, 0},
		{"Inc", count.Inc, 128, 255, 129, 255 - api.Z - api.V},
	}
	for _, c := range cases {
		if r, codes := c.call(c.a, c.cc); r != c.r || codes != c.codes {
			t.Errorf("%s(%d, %d): %d, %d", c.name, c.a, c.cc, r, codes)
		}
	}
}
