package conf_test

import (
	"fmt"
	"math"
	"strings"
	"testing"

	"spinet/api"
	"spinet/conf"
)

// numbers: those around kinds and ends of memory, and far ones.
var numbers = []int{math.MinInt, math.MinInt + 1, -1 << 32, 1 - 1<<32, -65536, -65535, -256, -255, -2, -1, 0, 1, 2, 3, 4, 255, 256, 257, 61440, 65534, 65535, 65536, 65537, 65538, 131072, 1 << 32, 1<<32 + 1, math.MaxInt - 1, math.MaxInt}

func TestP33_1RightCheck(t *testing.T) {
	for _, kind := range numbers {
		for _, rom := range numbers {
			c := api.Config{Kind: kind, Rom: rom}
			want := api.OK
			switch {
			case kind != 0 && kind != 1:
				// The kind is asked first.
				want = api.ErrArg
			case rom < 0 || rom > 65536:
				want = api.ErrRange
			}
			if e := conf.Check(c); e != want {
				t.Errorf("Check(%+v): %v, not %v", c, e, want)
			}
			if ok := conf.Right(c); ok != (want == api.OK) {
				t.Errorf("Right(%+v): %v", c, ok)
			}
			if s := conf.Text(c); (s == "") != (want != api.OK) {
				t.Errorf("Text(%+v): %q", c, s)
			}
		}
	}
}

func TestP33_1Text(t *testing.T) {
	cases := []struct {
		kind, rom int
		want      string
	}{
		{0, 65536, "TSC"},
		{1, 65536, "DMA"},
		{0, 65535, "TSC ROM FFFF"},
		{1, 61440, "DMA ROM F000"},
		{0, 0, "TSC ROM 0000"},
		{1, 0, "DMA ROM 0000"},
		{1, 1, "DMA ROM 0001"},
		{0, 0xABC, "TSC ROM 0ABC"},
		{2, 65536, ""},
		{-1, 0, ""},
		{0, 65537, ""},
		{0, -1, ""},
		{1, -65536, ""},
	}
	for _, c := range cases {
		for range 2 {
			if got := conf.Text(api.Config{Kind: c.kind, Rom: c.rom}); got != c.want {
				t.Errorf("Text of %d, %d: %q, not %q", c.kind, c.rom, got, c.want)
			}
		}
	}
}

// All shapes that are right have a text of their own, which is read again.
func TestP33_1AllShapes(t *testing.T) {
	for kind, name := range []string{"TSC", "DMA"} {
		for rom := range 65537 {
			c := api.Config{Kind: kind, Rom: rom}
			want := fmt.Sprintf("%s ROM %04X", name, rom)
			if rom == 65536 {
				want = name
			}
			if s := conf.Text(c); s != want {
				t.Fatalf("Text(%+v): %q, not %q", c, s, want)
			}
			if got, e := conf.Read(want); got != c || e != api.OK {
				t.Fatalf("Read(%q): %+v, %v, not %+v", want, got, e, c)
			}
		}
	}
}

func TestP33_1ReadOfOthers(t *testing.T) {
	texts := []string{
		"", " ", "T", "TS", "tsc", "dma", "Tsc", "TSC ", " TSC", "DMA ", " DMA", "TSCDMA", "TSC DMA", "X", "ROM", "ROM F000", " ROM F000",
		"DMA ROM", "DMA ROM ", "DMA  ROM F000", "DMA ROM  F000", " DMA ROM F000", "DMA ROM F000 ", "DMAROM F000", "DMA ROMF000", "DMA rom F000", "DMA Rom F000", "dma ROM F000",
		"DMA ROM f000", "DMA ROM F00f", "DMA ROM F00", "DMA ROM 0", "DMA ROM 1", "DMA ROM 0F000", "DMA ROM 00F000", "DMA ROM G000", "DMA ROM -001", "DMA ROM +001", "DMA ROM F00 ", "DMA ROM F 00", "DMA ROM F000\n", "DMA ROM F000\x00", "DMA\tROM\tF000", "DMA ROM $F000", "DMA ROM 0xF0",
		"DMA ROM 10000", "DMA ROM 1F000", "DMA ROM FFFFF", "DMA ROM FFFFFFFF", "DMA ROM 100000000F000", "DMA ROM FFFFFFFFFFFFFFFF", "DMA ROM 8000000000000000", "DMA ROM 000000000000F000", "DMA ROM 1000000000000F000", "DMA ROM 0000000000000000F000",
		"DMA ROM F000 ROM F000", "DMA ROM F000 ROM", "TSC ROM ROM F000", "TSC ROM 0000 ROM 0000", "DMA 65536", "DMA ROM 61440", "0", "1", "1 ROM F000",
		"\xff", "ＤＭＡ", "DMA ROM ＦＦＦＦ", strings.Repeat("DMA ROM F000", 1000), "DMA ROM " + strings.Repeat("0", 100000), strings.Repeat(" ", 100000),
	}
	for _, s := range texts {
		for range 2 {
			if c, e := conf.Read(s); c != (api.Config{}) || e != api.ErrForm {
				t.Errorf("Read(%.40q): %+v, %v", s, c, e)
			}
		}
	}
	// Another byte anywhere in a text makes none, or another shape's.
	for _, s := range []string{"TSC", "DMA ROM F09A"} {
		for i := range s {
			for b := range 256 {
				other := s[:i] + string([]byte{byte(b)}) + s[i+1:]
				c, e := conf.Read(other)
				if e == api.OK && conf.Text(c) != other || e != api.OK && (e != api.ErrForm || c != (api.Config{})) {
					t.Errorf("Read(%q): %+v, %v", other, c, e)
				}
				digit := strings.Contains("0123456789ABCDEF", string(rune(b)))
				if (e == api.OK) != (other == s || i > 7 && digit) {
					t.Errorf("Read(%q): %v", other, e)
				}
			}
			if c, e := conf.Read(s[:i]); (e == api.OK) != (s[:i] == "DMA") || e != api.OK && c != (api.Config{}) {
				t.Errorf("Read(%q): %+v, %v", s[:i], c, e)
			}
		}
	}
}
