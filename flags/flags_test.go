package flags_test

import (
	"slices"
	"strings"
	"testing"

	"spinet/api"
	"spinet/flags"
)

func TestP3_1Has(t *testing.T) {
	for cc := range 256 {
		if !flags.Has(byte(cc)) || !flags.Has(byte(cc), []byte{}...) || !flags.Has(byte(cc), 0) {
			t.Fatalf("%d: of none, all are on", cc)
		}
		for f := range 256 {
			want := true
			for bit := 1; bit < 256; bit *= 2 {
				if f/bit%2 == 1 && cc/bit%2 == 0 {
					want = false
				}
			}
			if flags.Has(byte(cc), byte(f)) != want {
				t.Fatalf("Has(%d, %d): %v", cc, f, !want)
			}
			// The same bits, told in two parts that both have some of them.
			if flags.Has(byte(cc), byte(f&0xF0), byte(f&0x3F)) != want {
				t.Fatalf("Has(%d, %d, %d): %v", cc, f&0xF0, f&0x3F, !want)
			}
		}
	}
	if !flags.Has(130, api.E, api.V) || flags.Has(130, api.E, api.C) || flags.Has(130, api.C, api.E) {
		t.Error("all of these must be on")
	}
}

func TestP3_1With(t *testing.T) {
	for cc := range 256 {
		for _, on := range []bool{false, true} {
			if flags.With(byte(cc), on) != byte(cc) || flags.With(byte(cc), on, []byte{}...) != byte(cc) {
				t.Fatalf("With(%d, %v) of none: %d", cc, on, flags.With(byte(cc), on))
			}
		}
		for f := range 256 {
			for _, on := range []bool{false, true} {
				want := 0
				for bit := 1; bit < 256; bit *= 2 {
					told := f/bit%2 == 1
					if told && on || !told && cc/bit%2 == 1 {
						want += bit
					}
				}
				if got := flags.With(byte(cc), on, byte(f)); int(got) != want {
					t.Fatalf("With(%d, %v, %d): %d", cc, on, f, got)
				}
				if got := flags.With(byte(cc), on, byte(f&0xF0), byte(f&0x3F)); int(got) != want {
					t.Fatalf("With(%d, %v, %d, %d): %d", cc, on, f&0xF0, f&0x3F, got)
				}
			}
		}
	}
	if got := flags.With(api.C, true, api.E, api.V); got != api.E|api.V|api.C {
		t.Errorf("With on: %d", got)
	}
	if got := flags.With(255, false, api.E, api.V); got != 125 {
		t.Errorf("With off: %d", got)
	}
}

func TestP3_1NZ(t *testing.T) {
	for cc := range 256 {
		for r := range 256 {
			want := cc &^ (8 | 4)
			if r > 127 {
				want += 8
			}
			if r == 0 {
				want += 4
			}
			if got := flags.NZ(byte(cc), byte(r)); int(got) != want {
				t.Fatalf("NZ(%d, %d): %d", cc, r, got)
			}
		}
	}
}

func TestP3_1NZW(t *testing.T) {
	for _, cc := range []int{0, 4, 8, 12, 85, 170, 243, 255} {
		for w := range 65536 {
			want := cc &^ (8 | 4)
			if w > 32767 {
				want += 8
			}
			if w == 0 {
				want += 4
			}
			if got := flags.NZW(byte(cc), uint16(w)); int(got) != want {
				t.Fatalf("NZW(%d, %d): %d", cc, w, got)
			}
		}
	}
	for cc := range 256 {
		if got := flags.NZW(byte(cc), 128); int(got) != cc&^12 {
			t.Fatalf("NZW(%d, 128): %d", cc, got)
		}
	}
}

func TestP3_2Text(t *testing.T) {
	for cc, want := range map[byte]string{
		0: "--------", 255: "EFHINZVC", 130: "E-----V-",
		api.E: "E-------", api.F: "-F------", api.H: "--H-----", api.I: "---I----",
		api.N: "----N---", api.Z: "-----Z--", api.V: "------V-", api.C: "-------C",
	} {
		if got := flags.Text(cc); got != want {
			t.Errorf("Text(%d): %s", cc, got)
		}
	}
	for cc := range 256 {
		want := ""
		for i, c := range "EFHINZVC" {
			if cc>>(7-i)%2 == 1 {
				want += string(c)
			} else {
				want += "-"
			}
		}
		if got := flags.Text(byte(cc)); got != want {
			t.Errorf("Text(%d): %s, not %s", cc, got, want)
		}
	}
}

func TestP3_2Read(t *testing.T) {
	for cc := range 256 {
		s := flags.Text(byte(cc))
		if got, e := flags.Read(s); int(got) != cc || e != api.OK {
			t.Errorf("Read(%q): %d, %d", s, got, e)
		}
	}
}

func TestP3_2ReadErrors(t *testing.T) {
	wrong := []string{
		"", "-", "E", "E-----V", "E-----V--", " E-----V-", "E-----V- ", "EFHINZV", "EFHINZVCC",
		"e-----v-", "efhinzvc", "FEHINZVC", "E-----C-", "CVZNIHFE", "EEEEEEEE", "E_____V_", "E     V ",
		"E-----V\x00", "E-----é", "−−−−−−−−", strings.Repeat("-", 1000),
	}
	for _, s := range wrong {
		if got, e := flags.Read(s); got != 0 || e != api.ErrForm {
			t.Errorf("Read(%q): %d, %d", s, got, e)
		}
	}
}

// At each place just the minus sign and the place's own letter may stand.
func TestP3_2ReadEachSign(t *testing.T) {
	const letters = "EFHINZVC"
	for _, frame := range []string{"--------", letters} {
		for place := range 8 {
			for c := range 256 {
				s := []byte(frame)
				s[place] = byte(c)
				got, e := flags.Read(string(s))
				if byte(c) == '-' || byte(c) == letters[place] {
					if e != api.OK || flags.Text(got) != string(s) {
						t.Errorf("Read(%q): %d, %d", s, got, e)
					}
				} else if got != 0 || e != api.ErrForm {
					t.Errorf("Read(%q): %d, %d", s, got, e)
				}
			}
		}
	}
}

// What is handed in stays, and the same is answered again (P2 of DOC.md, rule 5).
func TestP2SameAgain(t *testing.T) {
	f := append(make([]byte, 0, 4), api.E, api.V)
	for range 2 {
		if !flags.Has(130, f...) || flags.With(0, true, f...) != 130 || flags.With(255, false, f...) != 125 {
			t.Error("something else is answered the second time")
		}
		if flags.Text(130) != "E-----V-" {
			t.Error("Text answers something else the second time")
		}
	}
	if !slices.Equal(f[:4], []byte{api.E, api.V, 0, 0}) {
		t.Errorf("what was given has changed: %v", f[:4])
	}
}
