package phase_test

import (
	"math"
	"slices"
	"testing"

	"spinet/api"
	"spinet/phase"
	"spinet/post"
)

// row: cycles by letters: O an opcode, A another byte, N the next one, i idle, L load, S store, T the two bytes of an address; a star behind one: Busy.
func row(s string) []api.Step {
	kinds := map[rune]int{
		'O': api.KindOp, 'A': api.KindArg, 'N': api.KindNext, 'i': api.KindIdle, 'L': api.KindLoad, 'S': api.KindStore, 'T': api.KindPtr,
	}
	var out []api.Step
	for _, c := range s {
		if c == '*' {
			out[len(out)-1].Busy = true
		} else {
			out = append(out, api.Step{Kind: kinds[c]})
		}
	}
	return out
}

// numbers are kinds and modes, and what is none.
var numbers = []int{math.MinInt, -300, -1, 0, 1, 2, 3, 4, 5, 6, 7, 8, 9, 10, 11, 12, 13, 255, 256, 1 << 32, math.MaxInt}

func TestP22_1Some(t *testing.T) {
	many := map[int]int{
		math.MinInt: 0, -1000: 0, -1: 0, 0: 0, 1: 1, 2: 2, 3: 3, 19: 19, 20: 20, 21: 21, 256: 256, 999: 999,
		1000: 1000, 1001: 1000, 2000: 1000, 65536: 1000, 1 << 32: 1000, math.MaxInt: 1000,
	}
	for _, kind := range numbers {
		for n, want := range many {
			got := phase.Some(kind, n)
			if len(got) != want {
				t.Fatalf("Some(%d, %d): %d cycles", kind, n, len(got))
			}
			for _, s := range got {
				if s != (api.Step{Kind: kind}) {
					t.Fatalf("Some(%d, %d): %v", kind, n, s)
				}
			}
		}
	}
}

func TestP22_1First(t *testing.T) {
	for _, kind := range numbers {
		want := []api.Step{{Kind: kind, Busy: true}, {Kind: kind, Busy: false}}
		if got := phase.First(kind); !slices.Equal(got, want) {
			t.Errorf("First(%d): %v", kind, got)
		}
	}
}

func TestP22_1Row(t *testing.T) {
	a, b := row("OA"), row("L*L")
	cases := []struct {
		l    [][]api.Step
		want string
	}{
		{nil, ""},
		{[][]api.Step{}, ""},
		{[][]api.Step{nil}, ""},
		{[][]api.Step{nil, {}, nil}, ""},
		{[][]api.Step{a}, "OA"},
		{[][]api.Step{a, b}, "OAL*L"},
		{[][]api.Step{b, a}, "L*LOA"},
		{[][]api.Step{a, nil, b, {}, row("i"), a}, "OAL*LiOA"},
	}
	for _, c := range cases {
		if got := phase.Row(c.l...); !slices.Equal(got, row(c.want)) {
			t.Errorf("Row(%v): %v, not %v", c.l, got, row(c.want))
		}
	}
	if got := phase.Row(phase.Some(7, 1000), phase.Some(8, 1000)); len(got) != 2000 || got[999].Kind != 7 || got[1000].Kind != 8 {
		t.Errorf("a long row has %d cycles", len(got))
	}
}

func TestP22_2Ahead(t *testing.T) {
	want := map[int]string{
		api.ModeInh: "", api.ModeImm: "A", api.ModeImmw: "AA", api.ModeDir: "Ai", api.ModeIdx: "A", api.ModeExt: "AAi",
		api.ModeRel: "A", api.ModeRelw: "AA", api.ModePair: "A", api.ModeMany: "A",
	}
	for mode := -300; mode < 300; mode++ {
		if got := phase.Ahead(mode); !slices.Equal(got, row(want[mode])) {
			t.Errorf("Ahead(%d): %v, not %v", mode, got, row(want[mode]))
		}
	}
	for _, mode := range []int{math.MinInt, math.MinInt + 1, 1 << 32, 1<<32 + 3, math.MaxInt} {
		if got := phase.Ahead(mode); len(got) != 0 {
			t.Errorf("Ahead(%d): %v", mode, got)
		}
	}
}

// halves are the cycles of the postbytes from 128 on, by their lower halves, written by hand.
func halves() [16]string {
	return [16]string{
		0: "iii", 1: "iiii", 2: "iii", 3: "iiii", 4: "i", 5: "ii", 6: "ii", 7: "i", 8: "Ai", 9: "AAiii",
		10: "i", 11: "iiiii", 12: "Ai", 13: "AAiiii", 14: "i", 15: "AAi",
	}
}

func TestP22_2Behind(t *testing.T) {
	for b := range 256 {
		want := "ii"
		if b >= 128 {
			want = halves()[b%16]
			if b/16%2 == 1 || b%16 == 15 {
				want += "T*Ti"
			}
		}
		p := post.Of(byte(b))
		if got := phase.Behind(p); !slices.Equal(got, row(want)) {
			t.Errorf("Behind(%X): %v, not %v", b, got, row(want))
		}
		// The opcode's own cycles don't count among the postbyte's.
		if got := len(phase.Behind(p)); got != p.Extra()+1 {
			t.Errorf("Behind(%X): %d cycles", b, got)
		}
	}
}

// Raw values have an answer, too (P1 of DOC.md).
func TestP1RawValues(t *testing.T) {
	for _, kind := range numbers {
		p := post.Post{Kind: kind, Reg: kind, Off: 65535, Indirect: true}
		if got := phase.Behind(p); len(got) < 4 || !slices.Equal(got[len(got)-3:], row("T*Ti")) {
			t.Errorf("Behind(%v): %v", p, got)
		}
	}
}

// What is answered is new memory, what is handed in stays, and the same is answered again (P2 of DOC.md, rule 5).
func TestP2NewMemory(t *testing.T) {
	a, b := make([]api.Step, 2, 50), row("L*L")
	copy(a, row("OA"))
	got := phase.Row(a, b)
	if !slices.Equal(got, row("OAL*L")) || !slices.Equal(a, row("OA")) || !slices.Equal(a[2:4], make([]api.Step, 2)) {
		t.Errorf("Row: %v of %v", got, a)
	}
	clear(got)
	alone := phase.Row(a)
	clear(alone[:cap(alone)])
	if !slices.Equal(a, row("OA")) || !slices.Equal(b, row("L*L")) {
		t.Errorf("what was handed in: %v, %v", a, b)
	}
	for range 2 {
		all := [][]api.Step{phase.Some(4, 3), phase.First(5), phase.Ahead(api.ModeDir), phase.Behind(post.Of(0x99))}
		for i, want := range []string{"iii", "L*L", "Ai", "AAiiiT*Ti"} {
			if !slices.Equal(all[i], row(want)) {
				t.Errorf("%v, not %v", all[i], row(want))
			}
			clear(all[i][:cap(all[i])])
		}
	}
}
