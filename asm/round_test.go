package asm_test

import (
	"bytes"
	"fmt"
	"math/rand"
	"strings"
	"testing"

	"spinet/api"
	"spinet/asm"
	"spinet/dis"
	"spinet/inst"
)

// sure: all opcodes of all pages with all bytes behind them that are sure, as bytes.
func sure(r *rand.Rand) [][]byte {
	var out [][]byte
	for _, ahead := range [][]byte{nil, {0x10}, {0x11}} {
		for code := range 256 {
			for post := range 256 {
				b := append(bytes.Clone(ahead), byte(code), byte(post), byte(r.Intn(256)), byte(r.Intn(256)), byte(r.Intn(256)))
				i, _ := inst.Of(b...)
				if dis.Sure(i) {
					out = append(out, b[:i.Len])
				}
			}
		}
	}
	return out
}

// written: the texts of instructions from an address on, behind ORG, and their bytes, as many as a text has room for.
func written(at uint16, l [][]byte) (string, []byte, [][]byte) {
	text := fmt.Sprintf(" ORG %d\n", at)
	var b []byte
	for n, x := range l {
		here := int(at) + len(b)
		i, _ := inst.Of(x...)
		next := " " + dis.Text(i, uint16(here)) + "\n"
		if len(text)+len(next) > api.MaxText || here+len(x) > 65536 {
			return text, b, l[n:]
		}
		text += next
		b = append(b, x...)
	}
	return text, b, nil
}

func TestP46_3Every(t *testing.T) {
	r := rand.New(rand.NewSource(463))
	l := sure(r)
	if len(l) < 60000 {
		t.Errorf("%d are sure", len(l))
	}
	r.Shuffle(len(l), func(i, k int) { l[i], l[k] = l[k], l[i] })
	for len(l) > 0 {
		at := uint16(r.Intn(65520))
		var text string
		var want []byte
		text, want, l = written(at, l)
		p, n, e := asm.Assemble(text)
		if e != api.OK {
			t.Fatalf("line %d, %s: %v", n, strings.Split(text, "\n")[n-1], e)
		}
		if got := all(p); !bytes.Equal(got, want) || len(want) > 0 && p.Outs[0].At != at {
			t.Fatalf("at %04X: %X, not %X", at, got, want)
		}
		if image := p.Image(); !bytes.Equal(image[at:int(at)+len(want)], want) {
			t.Fatalf("at %04X: another image", at)
		}
	}
}

func TestP46_3LastAddress(t *testing.T) {
	// What ends at the last address goes to addresses behind 0.
	for _, x := range [][]byte{{0x20, 0x10}, {0x20, 0x80}, {0x16, 0x12, 0x34}, {0x10, 0x27, 0xFF, 0xFC}, {0x10, 0xAE, 0x89, 0x12, 0x34}, {0x12}} {
		text, want, rest := written(uint16(65536-len(x)), [][]byte{x})
		p, n, e := asm.Assemble(text)
		if e != api.OK || n != 0 || len(rest) > 0 || !bytes.Equal(all(p), want) {
			t.Errorf("%q: %X, %v", text, all(p), e)
		}
	}
}
