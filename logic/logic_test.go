package logic_test

import (
	"testing"

	"spinet/api"
	"spinet/logic"
)

// bitwise: the byte whose bits are 1 where the rule says so of two bits.
func bitwise(a, b int, rule func(x, y int) bool) int {
	r := 0
	for i := range 8 {
		if rule(a>>i%2, b>>i%2) {
			r += 1 << i
		}
	}
	return r
}

// codes: those behind a result: N, Z; V is off.
func codes(cc, r int) int {
	cc -= cc & (api.N | api.Z | api.V)
	if r > 127 {
		cc += api.N
	}
	if r == 0 {
		cc += api.Z
	}
	return cc
}

func TestP6_1AndOrEorBit(t *testing.T) {
	calls := []struct {
		name string
		call func(a, b, cc byte) (byte, byte)
		rule func(x, y int) bool
	}{
		{"And", logic.And, func(x, y int) bool { return x+y == 2 }},
		{"Or", logic.Or, func(x, y int) bool { return x+y > 0 }},
		{"Eor", logic.Eor, func(x, y int) bool { return x+y == 1 }},
	}
	for a := range 256 {
		for b := range 256 {
			for _, c := range calls {
				want := bitwise(a, b, c.rule)
				for _, cc := range []int{0, 255, api.V, api.C, 85, 170, api.N | api.Z} {
					r, got := c.call(byte(a), byte(b), byte(cc))
					if int(r) != want || int(got) != codes(cc, want) {
						t.Fatalf("%s(%d, %d, %d): %d, %d", c.name, a, b, cc, r, got)
					}
					if c.name == "And" && logic.Bit(byte(a), byte(b), byte(cc)) != got {
						t.Fatalf("Bit(%d, %d, %d): %d, not %d", a, b, cc, logic.Bit(byte(a), byte(b), byte(cc)), got)
					}
				}
			}
		}
	}
}

func TestP6_1AllCodes(t *testing.T) {
	for cc := range 256 {
		for _, p := range [][2]int{{0, 0}, {255, 128}, {255, 255}, {1, 3}, {240, 15}} {
			and, or, eor := p[0]&p[1], p[0]|p[1], p[0]^p[1]
			if r, got := logic.And(byte(p[0]), byte(p[1]), byte(cc)); int(r) != and || int(got) != codes(cc, and) {
				t.Errorf("And(%d, %d, %d): %d, %d", p[0], p[1], cc, r, got)
			}
			if r, got := logic.Or(byte(p[0]), byte(p[1]), byte(cc)); int(r) != or || int(got) != codes(cc, or) {
				t.Errorf("Or(%d, %d, %d): %d, %d", p[0], p[1], cc, r, got)
			}
			if r, got := logic.Eor(byte(p[0]), byte(p[1]), byte(cc)); int(r) != eor || int(got) != codes(cc, eor) {
				t.Errorf("Eor(%d, %d, %d): %d, %d", p[0], p[1], cc, r, got)
			}
			if got := logic.Bit(byte(p[0]), byte(p[1]), byte(cc)); int(got) != codes(cc, and) {
				t.Errorf("Bit(%d, %d, %d): %d", p[0], p[1], cc, got)
			}
		}
	}
}

func TestP6_1TstComClr(t *testing.T) {
	for cc := range 256 {
		for a := range 256 {
			if got := logic.Tst(byte(a), byte(cc)); int(got) != codes(cc, a) {
				t.Fatalf("Tst(%d, %d): %d", a, cc, got)
			}
			if r, got := logic.Com(byte(a), byte(cc)); int(r) != 255-a || int(got) != codes(cc, 255-a)|api.C {
				t.Fatalf("Com(%d, %d): %d, %d", a, cc, r, got)
			}
		}
		if r, got := logic.Clr(byte(cc)); r != 0 || int(got) != codes(cc, 0)&^api.C {
			t.Fatalf("Clr(%d): %d, %d", cc, r, got)
		}
	}
}

func TestP6_1Edges(t *testing.T) {
	if r, cc := logic.Com(0, 0); r != 255 || cc != api.N|api.C {
		t.Errorf("Com(0, 0): %d, %d", r, cc)
	}
	if r, cc := logic.Com(255, 255); r != 0 || cc != 255-api.N-api.V {
		t.Errorf("Com(255, 255): %d, %d", r, cc)
	}
	if r, cc := logic.Clr(255); r != 0 || cc != 255-api.N-api.V-api.C {
		t.Errorf("Clr(255): %d, %d", r, cc)
	}
	if r, cc := logic.Clr(0); r != 0 || cc != api.Z {
		t.Errorf("Clr(0): %d, %d", r, cc)
	}
	if cc := logic.Tst(0, api.C|api.V|api.H); cc != api.C|api.H|api.Z {
		t.Errorf("Tst(0): %d", cc)
	}
	if cc := logic.Bit(128, 192, api.C|api.V|api.Z); cc != api.C|api.N {
		t.Errorf("Bit(128, 192): %d", cc)
	}
}
