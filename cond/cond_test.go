package cond_test

import (
	"math"
	"strings"
	"testing"

	"spinet/api"
	"spinet/cond"
)

// strange are numbers of no condition.
var strange = []int{-1, -2, -15, -16, 16, 17, 18, 255, 256, math.MaxInt, math.MinInt}

// rule: what the document says of a condition, by single codes.
func rule(n int, neg, zero, over, carry bool) bool {
	switch n {
	case 0:
		return true
	case 1:
		return false
	case 2:
		return !carry && !zero
	case 3:
		return carry || zero
	case 4:
		return !carry
	case 5:
		return carry
	case 6:
		return !zero
	case 7:
		return zero
	case 8:
		return !over
	case 9:
		return over
	case 10:
		return !neg
	case 11:
		return neg
	case 12:
		return neg == over
	case 13:
		return neg != over
	case 14:
		return !zero && neg == over
	}
	return zero || neg != over
}

func TestP12_1Holds(t *testing.T) {
	for n := range 16 {
		for cc := range 256 {
			want := rule(n, cc&api.N > 0, cc&api.Z > 0, cc&api.V > 0, cc&api.C > 0)
			if cond.Holds(n, byte(cc)) != want {
				t.Errorf("Holds(%d, %d): %v", n, cc, !want)
			}
		}
	}
	for _, n := range strange {
		for cc := range 256 {
			if cond.Holds(n, byte(cc)) {
				t.Fatalf("Holds(%d, %d)", n, cc)
			}
		}
	}
}

// Of two numbers the conditions are what they say of them, when the codes are those of a subtraction.
func TestP12_1HoldsOfNumbers(t *testing.T) {
	for a := -128; a < 128; a++ {
		for b := -128; b < 128; b++ {
			plain, signed := int(byte(a))-int(byte(b)), a-b
			cc := 0
			if byte(plain) > 127 {
				cc += api.N
			}
			if plain == 0 {
				cc += api.Z
			}
			if signed < -128 || signed > 127 {
				cc += api.V
			}
			if plain < 0 {
				cc += api.C
			}
			want := map[string]bool{
				"HI": byte(a) > byte(b), "LS": byte(a) <= byte(b), "HS": byte(a) >= byte(b), "LO": byte(a) < byte(b),
				"NE": a != b, "EQ": a == b, "GE": a >= b, "LT": a < b, "GT": a > b, "LE": a <= b, "RA": true, "RN": false,
			}
			for name, so := range want {
				if n, ok := cond.Find(name); !ok || cond.Holds(n, byte(cc)) != so {
					t.Fatalf("%s of %d and %d: %v", name, a, b, !so)
				}
			}
		}
	}
}

func TestP12_1Not(t *testing.T) {
	want := [16]int{1, 0, 3, 2, 5, 4, 7, 6, 9, 8, 11, 10, 13, 12, 15, 14}
	for n := range 16 {
		if cond.Not(n) != want[n] {
			t.Errorf("Not(%d): %d", n, cond.Not(n))
		}
		for cc := range 256 {
			if cond.Holds(n, byte(cc)) == cond.Holds(cond.Not(n), byte(cc)) {
				t.Fatalf("%d and Not(%d) both hold, or both don't: %d", n, n, cc)
			}
		}
	}
	for _, n := range strange {
		if cond.Not(n) != 0 {
			t.Errorf("Not(%d): %d", n, cond.Not(n))
		}
	}
}

func TestP12_1Name(t *testing.T) {
	for n, want := range strings.Fields("RA RN HI LS CC CS NE EQ VC VS PL MI GE LT GT LE") {
		if cond.Name(n) != want {
			t.Errorf("Name(%d): %s", n, cond.Name(n))
		}
		if got, ok := cond.Find(want); got != n || !ok {
			t.Errorf("Find(%s): %d, %v", want, got, ok)
		}
	}
	for _, n := range strange {
		if cond.Name(n) != "" {
			t.Errorf("Name(%d): %s", n, cond.Name(n))
		}
	}
}

func TestP12_1Find(t *testing.T) {
	if n, ok := cond.Find("HS"); n != 4 || !ok {
		t.Errorf("Find(HS): %d, %v", n, ok)
	}
	if n, ok := cond.Find("LO"); n != 5 || !ok {
		t.Errorf("Find(LO): %d, %v", n, ok)
	}
	for _, s := range []string{"", "R", "A", "ra", "hs", "lo", "Ra", "BRA", "RA ", " RA", "RAN", "RARN", "SR", "ER", "HL", "XX", "C", "N", "0", "\x00\x00", "é", strings.Repeat("RA", 1000)} {
		if n, ok := cond.Find(s); n != 0 || ok {
			t.Errorf("Find(%q): %d, %v", s, n, ok)
		}
	}
}

// Of all texts of two letters just eighteen are names.
func TestP12_1FindEachPair(t *testing.T) {
	found := 0
	for a := range 256 {
		for b := range 256 {
			n, ok := cond.Find(string([]byte{byte(a), byte(b)}))
			if ok {
				found++
			} else if n != 0 {
				t.Fatalf("Find(%q): %d", []byte{byte(a), byte(b)}, n)
			}
		}
	}
	if found != 18 {
		t.Errorf("%d names", found)
	}
}
