package listing_test

import (
	"fmt"
	"math/rand"
	"strings"
	"testing"

	"spinet/api"
	"spinet/asm"
	"spinet/listing"
)

func TestP47_1Known(t *testing.T) {
	if listing.Width != 5 {
		t.Error("Width")
	}
	for _, c := range []struct{ text, want string }{
		{"a: BRA a", "0000 20FE        a: BRA a\n0000 a\n"},
		{"", "                 \n"},
		{"\n", "                 \n                 \n"},
		{"a", "                 a\n0000 a\n"},
		{" NOP", "0000 12           NOP\n"},
		{" NOP\n", "0000 12           NOP\n                 \n"},
		{" FCB 1,2,3,4", "0000 01020304     FCB 1,2,3,4\n"},
		{" FCB 1,2,3,4,5", "0000 0102030405   FCB 1,2,3,4,5\n"},
		{" FCB 1,2,3,4,5,6", "0000 0102030405+  FCB 1,2,3,4,5,6\n"},
		{" FDB 1,2,3", "0000 0001000200+  FDB 1,2,3\n"},
		{" FCB 1\t, 2 ;\tthree\r", "0000 0102         FCB 1\t, 2 ;\tthree\r\n"},
		{
			"; one\n ORG $ABCD\nb: LDY 5000,X\nB RMB 3\n\na EQU 5\nA.1: EQU *\n LBRA b ; back",
			"                 ; one\n" +
				"                  ORG $ABCD\n" +
				"ABCD 10AE891388  b: LDY 5000,X\n" +
				"                 B RMB 3\n" +
				"                 \n" +
				"                 a EQU 5\n" +
				"                 A.1: EQU *\n" +
				"ABD5 16FFF5       LBRA b ; back\n" +
				"ABD5 A.1\nABD2 B\n0005 a\nABCD b\n",
		},
		{" ORG 5\n NOP\n ORG 4\n RTS\n", "                  ORG 5\n0005 12           NOP\n                  ORG 4\n0004 39           RTS\n                 \n"},
		{" ORG 65535\n NOP\nq EQU *-1", "                  ORG 65535\nFFFF 12           NOP\n                 q EQU *-1\nFFFF q\n"},
	} {
		got, n, e := listing.Text(c.text)
		if e != api.OK || n != 0 || got != c.want {
			t.Errorf("Text of %q:\n%s, line %d, %v, not\n%s", c.text, got, n, e, c.want)
		}
	}
}

func TestP47_1Wrong(t *testing.T) {
	for _, s := range []string{" FOO", "a: NOP\na: NOP", "\n\n1: NOP", " NOP\n LDA #256", " FCB", strings.Repeat("\n", 16385), " ORG 65535\n LDA 5", " NOP 5"} {
		_, line, why := asm.Assemble(s)
		got, n, e := listing.Text(s)
		if got != "" || n != line || e != why || e == api.OK {
			t.Errorf("Text of %.20q: %q, %d, %v, not %d, %v", s, got, n, e, line, why)
		}
	}
}

// shown is another reckoning of Text, of a program that is right.
func shown(s string, p asm.Program) string {
	lines := strings.Split(s, "\n")
	fronts := make([]string, len(lines))
	for _, o := range p.Outs {
		more := ""
		b := o.B
		if len(b) > 5 {
			b, more = b[:5], "+"
		}
		fronts[o.Line-1] = fmt.Sprintf("%04X %-10X%s", o.At, b, more)
	}
	out := ""
	for i, x := range lines {
		out += fmt.Sprintf("%-16s %s\n", fronts[i], x)
	}
	for _, name := range p.Names.Names() {
		at, _ := p.Names.Get(name)
		out += fmt.Sprintf("%04X %s\n", at, name)
	}
	return out
}

// anyText: lines of which most are right.
func anyText(r *rand.Rand) string {
	lines := []string{"", ";", "a%d", "b%d: NOP", " LDA #5", "c%d FDB 1,2,3,4", " FCB 1,2,3,4,5,6,7", " ORG $%d", " RMB %d", "d%d EQU %d", " LBEQ *", " LDY 500,X ; five", " fcb 'a", "\t", "  x ;", " ORG %d"}
	var out []string
	for range r.Intn(20) {
		s := lines[r.Intn(len(lines))]
		for strings.Contains(s, "%d") {
			s = strings.Replace(s, "%d", fmt.Sprint(r.Intn(40)), 1)
		}
		out = append(out, s)
	}
	return strings.Join(out, "\n")
}

func TestP47_1Any(t *testing.T) {
	r := rand.New(rand.NewSource(471))
	good := 0
	for range 20000 {
		s := anyText(r)
		p, line, why := asm.Assemble(s)
		got, n, e := listing.Text(s)
		if n != line || e != why {
			t.Fatalf("Text of %q: %d, %v, not %d, %v", s, n, e, line, why)
		}
		want := ""
		if why == api.OK {
			want = shown(s, p)
			good++
		}
		if got != want {
			t.Fatalf("Text of %q:\n%s, not\n%s", s, got, want)
		}
	}
	if good < 5000 {
		t.Errorf("%d were right", good)
	}
}

func TestP47_2Any(t *testing.T) {
	r := rand.New(rand.NewSource(472))
	clashes := 0
	for range 20000 {
		p, _, e := asm.Assemble(anyText(r))
		if e != api.OK {
			continue
		}
		bytes, clash := 0, 0
		at := map[int]int{}
		for _, o := range p.Outs {
			for i := range o.B {
				bytes++
				at[int(o.At)+i]++
				if at[int(o.At)+i] > 1 && clash == 0 {
					clash = o.Line
				}
			}
		}
		if clash > 0 {
			clashes++
		}
		if listing.Bytes(p) != bytes || listing.Clash(p) != clash {
			t.Fatalf("%+v: %d, %d, not %d, %d", p.Outs, listing.Bytes(p), listing.Clash(p), bytes, clash)
		}
	}
	if clashes < 500 {
		t.Errorf("%d clashes", clashes)
	}
}

func TestP47_2Known(t *testing.T) {
	for _, c := range []struct {
		text         string
		bytes, clash int
	}{
		{"", 0, 0},
		{"a\n ORG 5", 0, 0},
		{" NOP", 1, 0},
		{" NOP\n LDA #5\n FDB 1,2", 7, 0},
		{" ORG 5\n NOP\n ORG 5\n NOP", 2, 4},
		{" FCB 1,2,3\n ORG 3\n NOP", 4, 0},
		{" FCB 1,2,3\n ORG 2\n NOP", 4, 3},
		{" ORG 2\n NOP\n ORG 0\n FCB 1,2\n", 3, 0},
		{" ORG 2\n NOP\n ORG 0\n FCB 1,2,3\n", 4, 4},
		{" ORG 2\n NOP\n ORG 0\n FCB 1,2,3\n ORG 0\n NOP", 5, 4},
		{" ORG 65535\n NOP\n ORG 0\n NOP", 2, 0},
		{" ORG 65535\n NOP\n ORG 65535\n NOP", 2, 4},
		{" FCB 1,2\n ORG 0\n RMB 5\n ORG 0\n", 2, 0},
	} {
		p, _, e := asm.Assemble(c.text)
		if e != api.OK || listing.Bytes(p) != c.bytes || listing.Clash(p) != c.clash {
			t.Errorf("%q: %d, %d, %v", c.text, listing.Bytes(p), listing.Clash(p), e)
		}
	}
}

func TestP47_2MadeUp(t *testing.T) {
	var zero asm.Program
	if listing.Bytes(zero) != 0 || listing.Clash(zero) != 0 {
		t.Error("the zero program")
	}
	long := asm.Program{Outs: []asm.Out{{Line: 7, At: 5, B: make([]byte, 65536)}}}
	if listing.Bytes(long) != 65536 || listing.Clash(long) != 0 {
		t.Error("a line of as many bytes as memory has")
	}
	long.Outs[0].B = make([]byte, 65537)
	if listing.Bytes(long) != 65537 || listing.Clash(long) != 7 {
		t.Error("a line one of whose bytes lies over an earlier one of its own")
	}
}

func TestP2Again(t *testing.T) {
	s := "b: NOP\na: BRA b\n"
	a, _, _ := listing.Text(s)
	listing.Text(" FOO")
	if b, n, e := listing.Text(s); a != b || n != 0 || e != api.OK {
		t.Error("another answer")
	}
	p, _, _ := asm.Assemble(s)
	listing.Clash(p)
	if listing.Bytes(p) != 3 || p.Outs[0].Line != 1 || p.Names.Len() != 2 {
		t.Error("Clash changed the program")
	}
}
