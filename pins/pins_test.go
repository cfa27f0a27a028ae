package pins_test

import (
	"math/rand"
	"slices"
	"strconv"
	"strings"
	"testing"

	"spinet/api"
	"spinet/pins"
)

// all are all pins there are, in an order of numbers: the bit 32 is Reset's, 1 Req's.
func all() []api.Pins {
	var out []api.Pins
	for n := range 64 {
		on := func(bit int) bool { return n&bit > 0 }
		out = append(out, api.Pins{Reset: on(32), Nmi: on(16), Firq: on(8), Irq: on(4), Halt: on(2), Req: on(1)})
	}
	return out
}

// words are theirs, in the same order.
func words() []string {
	var out []string
	for n := range 64 {
		w := ""
		for i, c := range "RNFIHQ" {
			if n>>(5-i)&1 > 0 {
				w += string(c)
			}
		}
		if w == "" {
			w = "."
		}
		out = append(out, w)
	}
	return out
}

// times: as many cycles that are alike.
func times(p api.Pins, n int) []api.Pins { return slices.Repeat([]api.Pins{p}, n) }

func TestP31_1WordOne(t *testing.T) {
	l := words()
	for i, p := range all() {
		if got := pins.Word(p); got != l[i] {
			t.Errorf("Word(%+v): %q, not %q", p, got, l[i])
		}
		if got, ok := pins.One(l[i]); got != p || !ok {
			t.Errorf("One(%q): %+v, %v, not %+v", l[i], got, ok, p)
		}
	}
	if w := pins.Word(api.Pins{Nmi: true, Firq: true}); w != "NF" {
		t.Error(w)
	}
	if w := pins.Word(api.Pins{Reset: true, Nmi: true, Firq: true, Irq: true, Halt: true, Req: true}); w != "RNFIHQ" {
		t.Error(w)
	}
}

func TestP31_1OneOfOthers(t *testing.T) {
	for _, s := range []string{"", " ", "..", ".R", "R.", "RR", "NR", "FN", "QH", "r", "n", "A", "R ", " R", "RNFIHQ.", "RNFIHQR", "RX", "R*1", "*", ".*2", "R\x00", "\xff", "Ｒ", "RNFIHQRNFIHQ", strings.Repeat("R", 100000)} {
		if p, ok := pins.One(s); p != (api.Pins{}) || ok {
			t.Errorf("One(%q): %+v, %v", s, p, ok)
		}
	}
	// All texts of three letters and fewer, of which words are some.
	known := words()
	letters := []string{"", "R", "N", "F", "I", "H", "Q", ".", "*", "1", " ", "r"}
	for _, a := range letters {
		for _, b := range letters {
			for _, c := range letters {
				s := a + b + c
				p, ok := pins.One(s)
				if ok != slices.Contains(known, s) || ok && pins.Word(p) != s || !ok && p != (api.Pins{}) {
					t.Fatalf("One(%q): %+v, %v", s, p, ok)
				}
			}
		}
	}
}

func TestP31_2Text(t *testing.T) {
	none, reset := api.Pins{}, api.Pins{Reset: true}
	both := api.Pins{Nmi: true, Firq: true}
	cases := []struct {
		l    []api.Pins
		want string
	}{
		{nil, ""},
		{[]api.Pins{}, ""},
		{[]api.Pins{none}, "."},
		{[]api.Pins{reset, reset, none, both}, "R*2 . NF"},
		{[]api.Pins{none, none, none}, ".*3"},
		{[]api.Pins{none, reset, none, reset}, ". R . R"},
		{[]api.Pins{reset, both, both}, "R NF*2"},
		{times(reset, 9), "R*9"},
		{times(reset, 10), "R*10"},
		{times(reset, 4096), "R*4096"},
		// More than Parse would take.
		{times(reset, 4097), "R*4097"},
		{slices.Concat(times(none, 12345), times(both, 100)), ".*12345 NF*100"},
	}
	for _, c := range cases {
		kept := slices.Clone(c.l)
		for range 2 {
			if got := pins.Text(c.l...); got != c.want || !slices.Equal(c.l, kept) {
				t.Errorf("Text of %d cycles: %q, not %q", len(c.l), got, c.want)
			}
		}
	}
}

func TestP31_2Parse(t *testing.T) {
	none, reset := api.Pins{}, api.Pins{Reset: true}
	cases := []struct {
		s    string
		want []api.Pins
	}{
		{"", nil},
		{" ", nil},
		{"     ", nil},
		{"R*2 . NF", []api.Pins{reset, reset, none, {Nmi: true, Firq: true}}},
		{"  R   .  ", []api.Pins{reset, none}},
		{"R R", times(reset, 2)},
		{"R*1", times(reset, 1)},
		{"R*1 R*2", times(reset, 3)},
		{"R*002", times(reset, 2)},
		{".*010", times(none, 10)},
		{"R*" + strings.Repeat("0", 5000) + "3", times(reset, 3)},
		{"R*4096", times(reset, 4096)},
		{"R*00000000000000000000004096", times(reset, 4096)},
		{"R*4095 .", slices.Concat(times(reset, 4095), times(none, 1))},
		{strings.Repeat(". ", 4096), times(none, 4096)},
		{"RNFIHQ*3", times(api.Pins{Reset: true, Nmi: true, Firq: true, Irq: true, Halt: true, Req: true}, 3)},
	}
	for _, c := range cases {
		for range 2 {
			got, e := pins.Parse(c.s)
			if !slices.Equal(got, c.want) || e != api.OK {
				t.Errorf("Parse(%.40q): %d cycles, %d, not %d cycles", c.s, len(got), e, len(c.want))
			}
			// What is answered is new memory (P2 of DOC.md).
			clear(got)
		}
	}
}

func TestP31_2ParseErrors(t *testing.T) {
	long := strings.Repeat("9", 5000)
	cases := []struct {
		s string
		e api.Errno
	}{
		{"X", api.ErrForm},
		{"NR", api.ErrForm},
		{"r", api.ErrForm},
		{"R,N", api.ErrForm},
		{"*", api.ErrForm},
		{"*2", api.ErrForm},
		{"*0", api.ErrForm},
		{"R*", api.ErrForm},
		{"R* 2", api.ErrForm},
		{"R *2", api.ErrForm},
		{"R*2*2", api.ErrForm},
		{"R**2", api.ErrForm},
		{"R*-1", api.ErrForm},
		{"R*+1", api.ErrForm},
		{"R*0x2", api.ErrForm},
		{"R*A", api.ErrForm},
		{"R*1.", api.ErrForm},
		{"R*0.", api.ErrForm},
		{"R*٣", api.ErrForm},
		{"X*0", api.ErrForm},
		{"X*9999", api.ErrForm},
		{"R*" + long + "x", api.ErrForm},
		{"R*x" + long, api.ErrForm},
		// Bytes 32 alone stand between words.
		{"R\tN", api.ErrForm},
		{"R\nN", api.ErrForm},
		{"R\n", api.ErrForm},
		{"R\u00a0N", api.ErrForm},
		{"R\xff", api.ErrForm},
		{"R*0", api.ErrArg},
		{"R*" + strings.Repeat("0", 5000), api.ErrArg},
		{".*00", api.ErrArg},
		{"R*4097", api.ErrSize},
		{"R*9999999", api.ErrSize},
		{"R*18446744073709551615", api.ErrSize},
		{"R*18446744073709551616", api.ErrSize},
		{"R*18446744073709551617", api.ErrSize},
		{"R*99999999999999999999", api.ErrSize},
		{"R*100000000000000000000", api.ErrSize},
		{"R*0000" + long, api.ErrSize},
		{"R*4096 .", api.ErrSize},
		{"R*2048 .*2049", api.ErrSize},
		{strings.Repeat(". ", 4097), api.ErrSize},
		// The first word that is wrong tells.
		{"R*4096 . X", api.ErrSize},
		{"R*4096 X .", api.ErrForm},
		{"R*4096 R*0", api.ErrArg},
		{"R*0 X", api.ErrArg},
		{"X R*0", api.ErrForm},
		{"R*5000 X", api.ErrSize},
		{". R*5000 R*0", api.ErrSize},
		{". N*0 R*5000", api.ErrArg},
	}
	for _, c := range cases {
		if got, e := pins.Parse(c.s); len(got) > 0 || e != c.e {
			t.Errorf("Parse(%.40q): %d cycles, %d, not %d", c.s, len(got), e, c.e)
		}
	}
}

func TestP31_2Most(t *testing.T) {
	if pins.Most != 4096 {
		t.Error(pins.Most)
	}
	for n := 4000; n < 4200; n++ {
		l, e := pins.Parse("Q*" + strconv.Itoa(n))
		want := api.OK
		if n > 4096 {
			want = api.ErrSize
		}
		if e != want || e == api.OK && len(l) != n || e != api.OK && len(l) > 0 {
			t.Errorf("Parse of %d cycles: %d, %d", n, len(l), e)
		}
	}
}

// What Text tells Parse reads.
func TestP31_2Round(t *testing.T) {
	r := rand.New(rand.NewSource(31))
	for range 500 {
		var l []api.Pins
		for range r.Intn(60) {
			l = append(l, times(all()[r.Intn(64)], 1+r.Intn(1+r.Intn(60)))...)
		}
		s := pins.Text(l...)
		if got, e := pins.Parse(s); !slices.Equal(got, l) || e != api.OK {
			t.Fatalf("Parse(%q): %d cycles, %d, not %d", s, len(got), e, len(l))
		}
		// Side by side no two words have the same pins.
		last := ""
		for w := range strings.FieldsSeq(s) {
			w, _, _ = strings.Cut(w, "*")
			if w == last {
				t.Fatalf("Text: %q", s)
			}
			last = w
		}
	}
}

// Any text is read, or not, and the call ends (P1 of DOC.md).
func TestP1AnyText(t *testing.T) {
	r := rand.New(rand.NewSource(32))
	signs := "RNFIHQ..** 0123  \n\xff"
	for range 50000 {
		b := make([]byte, r.Intn(12))
		for i := range b {
			b[i] = signs[r.Intn(len(signs))]
		}
		s := string(b)
		l, e := pins.Parse(s)
		if e != api.OK && len(l) > 0 || e != api.OK && e != api.ErrForm && e != api.ErrArg && e != api.ErrSize {
			t.Fatalf("Parse(%q): %v, %d", s, l, e)
		}
		if e == api.OK {
			again, e := pins.Parse(pins.Text(l...))
			if !slices.Equal(again, l) || e != api.OK {
				t.Fatalf("Parse(%q): %v, then %v, %d", s, l, again, e)
			}
		}
	}
}
