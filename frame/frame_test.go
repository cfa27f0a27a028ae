package frame_test

import (
	"math"
	"math/rand"
	"slices"
	"testing"

	"spinet/api"
	"spinet/frame"
	"spinet/lists"
)

// entry is what the document says of an interrupt: the codes that go on and off ahead of the push, those that go on behind it.
type entry struct {
	on, off, then byte
	vector        uint16
	whole         bool
	pushes        bool
}

// entries: by the rows' kinds.
func entries() map[int]entry {
	return map[int]entry{
		1: {on: 128, then: 64 + 16, vector: 0xFFFC, whole: true, pushes: true},
		2: {off: 128, then: 64 + 16, vector: 0xFFF6, pushes: true},
		3: {on: 128, then: 16, vector: 0xFFF8, whole: true, pushes: true},
		4: {then: 64 + 16, vector: 0xFFFE},
		5: {then: 64 + 16, vector: 0xFFFC},
		6: {then: 64 + 16, vector: 0xFFF6},
		7: {then: 16, vector: 0xFFF8},
	}
}

// softs: by the software interrupts' numbers.
func softs() map[int]entry {
	return map[int]entry{
		1: {on: 128, then: 64 + 16, vector: 0xFFFA, whole: true, pushes: true},
		2: {on: 128, vector: 0xFFF4, whole: true, pushes: true},
		3: {on: 128, vector: 0xFFF2, whole: true, pushes: true},
	}
}

// numbers: those around the kinds, and far ones.
func numbers() []int {
	out := []int{math.MinInt, math.MinInt + 1, -1 << 32, 1<<32 + 1, 256, 257, 258, math.MaxInt}
	for n := -20; n < 40; n++ {
		out = append(out, n)
	}
	return out
}

// check: is what a call answers, of all codes, what the document says?
func check(t *testing.T, name string, call func(int, byte) (frame.Enter, bool), said map[int]entry) {
	t.Helper()
	for _, n := range numbers() {
		x, known := said[n]
		for cc := range 256 {
			want := frame.Enter{}
			if known {
				ahead := byte(cc)&^x.off | x.on
				want = frame.Enter{Then: ahead | x.then, Vector: x.vector, Whole: x.whole}
				if x.pushes {
					want.Pushed = ahead
				}
			}
			if got, ok := call(n, byte(cc)); got != want || ok != known {
				t.Fatalf("%s(%d, %d): %+v, %v, not %+v, %v", name, n, cc, got, ok, want, known)
			}
		}
	}
}

func TestP25_1Of(t *testing.T) { check(t, "Of", frame.Of, entries()) }

func TestP25_1Soft(t *testing.T) { check(t, "Soft", frame.Soft, softs()) }

func TestP25_1Some(t *testing.T) {
	cases := []struct {
		call func(int, byte) (frame.Enter, bool)
		n    int
		cc   byte
		want frame.Enter
	}{
		{frame.Of, api.RowIrq, 0, frame.Enter{Pushed: 0x80, Then: 0x90, Vector: 0xFFF8, Whole: true}},
		{frame.Of, api.RowNmi, 0x0F, frame.Enter{Pushed: 0x8F, Then: 0xDF, Vector: 0xFFFC, Whole: true}},
		{frame.Of, api.RowFirq, 0x8F, frame.Enter{Pushed: 0x0F, Then: 0x5F, Vector: 0xFFF6}},
		{frame.Of, api.RowReset, 0x00, frame.Enter{Then: 0x50, Vector: 0xFFFE}},
		// Behind CWAI E is on, and stays.
		{frame.Of, api.RowNmiW, 0x80, frame.Enter{Then: 0xD0, Vector: 0xFFFC}},
		{frame.Of, api.RowFirqW, 0x80, frame.Enter{Then: 0xD0, Vector: 0xFFF6}},
		{frame.Of, api.RowIrqW, 0x80, frame.Enter{Then: 0x90, Vector: 0xFFF8}},
		{frame.Of, api.RowInst, 0xFF, frame.Enter{}},
		{frame.Soft, 1, 0x0F, frame.Enter{Pushed: 0x8F, Then: 0xDF, Vector: 0xFFFA, Whole: true}},
		{frame.Soft, 2, 0x0F, frame.Enter{Pushed: 0x8F, Then: 0x8F, Vector: 0xFFF4, Whole: true}},
		{frame.Soft, 3, 0x0F, frame.Enter{Pushed: 0x8F, Then: 0x8F, Vector: 0xFFF2, Whole: true}},
		{frame.Soft, 0, 0xFF, frame.Enter{}},
		{frame.Soft, 4, 0xFF, frame.Enter{}},
	}
	for _, c := range cases {
		if got, ok := c.call(c.n, c.cc); got != c.want || ok != (c.want != frame.Enter{}) {
			t.Errorf("of %d, %X: %+v, %v, not %+v", c.n, c.cc, got, ok, c.want)
		}
	}
}

// whole and little: the Parts as the document has them, written by hand.
func whole() []lists.Part {
	return []lists.Part{
		{Reg: api.RegPC}, {Reg: api.RegPC, High: true}, {Reg: api.RegU}, {Reg: api.RegU, High: true},
		{Reg: api.RegY}, {Reg: api.RegY, High: true}, {Reg: api.RegX}, {Reg: api.RegX, High: true},
		{Reg: api.RegDP}, {Reg: api.RegB}, {Reg: api.RegA}, {Reg: api.RegCC},
	}
}

func little() []lists.Part {
	return []lists.Part{{Reg: api.RegPC}, {Reg: api.RegPC, High: true}, {Reg: api.RegCC}}
}

func TestP25_2Parts(t *testing.T) {
	for range 2 {
		for all, want := range map[bool][]lists.Part{true: whole(), false: little()} {
			got := frame.Parts(all)
			if !slices.Equal(got, want) {
				t.Errorf("Parts(%v): %v, not %v", all, got, want)
			}
			// What is answered is new memory.
			clear(got[:cap(got)])
		}
	}
}

// some: registers that all differ.
func some() api.Regs {
	return api.Regs{A: 0x01, B: 0x02, DP: 0x03, CC: 0x04, X: 0x1112, Y: 0x2122, U: 0x3132, S: 0x4142, PC: 0x5152}
}

// random: any registers.
func random(r *rand.Rand) api.Regs {
	w := func() uint16 { return uint16(r.Intn(65536)) }
	b := func() byte { return byte(r.Intn(256)) }
	return api.Regs{A: b(), B: b(), DP: b(), CC: b(), X: w(), Y: w(), U: w(), S: w(), PC: w()}
}

// bytes: what is pushed, by the document.
func bytes(r api.Regs, pushed byte, all bool) []byte {
	two := func(w uint16) []byte { return []byte{byte(w % 256), byte(w / 256)} }
	out := two(r.PC)
	if all {
		out = slices.Concat(out, two(r.U), two(r.Y), two(r.X), []byte{r.DP, r.B, r.A})
	}
	return append(out, pushed)
}

func TestP25_2Bytes(t *testing.T) {
	want := []byte{0x52, 0x51, 0x32, 0x31, 0x22, 0x21, 0x12, 0x11, 0x03, 0x02, 0x01, 0x99}
	if got := frame.Bytes(some(), frame.Enter{Pushed: 0x99, Then: 0xFF, Vector: 0xFFF8, Whole: true}); !slices.Equal(got, want) {
		t.Errorf("Bytes of all: % X", got)
	}
	want = []byte{0x52, 0x51, 0x19}
	if got := frame.Bytes(some(), frame.Enter{Pushed: 0x19, Then: 0xFF, Vector: 0xFFF6}); !slices.Equal(got, want) {
		t.Errorf("Bytes of CC and PC: % X", got)
	}
	// Which there are is told by Whole, whatever Pushed says.
	r := rand.New(rand.NewSource(25))
	for range 2000 {
		regs := random(r)
		for _, all := range []bool{true, false} {
			e := frame.Enter{Pushed: random(r).A, Then: random(r).A, Vector: random(r).X, Whole: all}
			if got, want := frame.Bytes(regs, e), bytes(regs, e.Pushed, all); !slices.Equal(got, want) {
				t.Fatalf("Bytes(%+v, %+v): % X, not % X", regs, e, got, want)
			}
		}
	}
}

// back: what was pulled, by the document.
func back(r api.Regs, b []byte) api.Regs {
	word := func(at int) uint16 { return uint16(b[at])*256 + uint16(b[at+1]) }
	r.CC = b[0]
	if b[0] < 128 {
		r.PC = word(1)
		r.S += 3
		return r
	}
	r.A, r.B, r.DP = b[1], b[2], b[3]
	r.X, r.Y, r.U, r.PC = word(4), word(6), word(8), word(10)
	r.S += 12
	return r
}

func TestP25_2Back(t *testing.T) {
	want := api.Regs{A: 2, B: 3, DP: 4, CC: 0x81, X: 0x0506, Y: 0x0708, U: 0x090A, S: 0x414E, PC: 0x0B0C}
	if got, e := frame.Back(some(), []byte{0x81, 2, 3, 4, 5, 6, 7, 8, 9, 10, 11, 12}); got != want || e != api.OK {
		t.Errorf("Back of all: %+v, %d", got, e)
	}
	want = some()
	want.CC, want.PC, want.S = 0x7F, 0x0203, 0x4145
	if got, e := frame.Back(some(), []byte{0x7F, 2, 3}); got != want || e != api.OK {
		t.Errorf("Back of CC and PC: %+v, %d", got, e)
	}
	r := rand.New(rand.NewSource(26))
	for cc := range 256 {
		for range 50 {
			regs := random(r)
			b := make([]byte, 3)
			if cc >= 128 {
				b = make([]byte, 12)
			}
			r.Read(b)
			b[0] = byte(cc)
			kept := slices.Clone(b)
			if got, e := frame.Back(regs, b); got != back(regs, kept) || e != api.OK || !slices.Equal(b, kept) {
				t.Fatalf("Back(%+v, % X): %+v, %d", regs, kept, got, e)
			}
		}
	}
}

func TestP25_2BackWraps(t *testing.T) {
	for s, first := range map[uint16]byte{65533: 0, 65524: 128, 65535: 127, 65530: 255} {
		b := make([]byte, 12)
		b[0] = first
		n := uint16(12)
		if first < 128 {
			b, n = b[:3], 3
		}
		if got, e := frame.Back(api.Regs{S: s}, b); got != (api.Regs{CC: first, S: s + n}) || e != api.OK {
			t.Errorf("Back with S %d: %+v, %d", s, got, e)
		}
	}
	if got, _ := frame.Back(api.Regs{S: 65533}, []byte{0, 0, 0}); got.S != 0 {
		t.Errorf("S is %d", got.S)
	}
}

func TestP25_2BackErrors(t *testing.T) {
	for n := range 300 {
		for _, first := range []byte{0, 1, 64, 127, 128, 129, 255} {
			b := make([]byte, n)
			need := 3
			if first >= 128 {
				need = 12
			}
			if n > 0 {
				b[0] = first
			}
			want := api.OK
			if n < need {
				want = api.ErrShort
			} else if n > need {
				want = api.ErrSize
			}
			got, e := frame.Back(some(), b)
			if e != want || e != api.OK && got != (api.Regs{}) {
				t.Errorf("Back of %d bytes, %d the first: %+v, %d, not %d", n, first, got, e, want)
			}
		}
	}
	if got, e := frame.Back(some(), nil); got != (api.Regs{}) || e != api.ErrShort {
		t.Errorf("Back of none: %+v, %d", got, e)
	}
}

// enters: of all interrupts that push, by the codes.
func enters(cc byte) []frame.Enter {
	var out []frame.Enter
	for _, kind := range []int{api.RowNmi, api.RowFirq, api.RowIrq} {
		e, _ := frame.Of(kind, cc)
		out = append(out, e)
	}
	for n := 1; n <= 3; n++ {
		e, _ := frame.Soft(n, cc)
		out = append(out, e)
	}
	return out
}

func TestP25_3Round(t *testing.T) {
	r := rand.New(rand.NewSource(27))
	for cc := range 256 {
		for _, e := range enters(byte(cc)) {
			from, other := random(r), random(r)
			from.CC = byte(cc)
			b := frame.Bytes(from, e)
			slices.Reverse(b)
			// Onto the registers as they were: they are there again, with the codes that were pushed.
			down := from
			down.S -= uint16(len(b))
			want := from
			want.CC = e.Pushed
			if got, err := frame.Back(down, b); got != want || err != api.OK {
				t.Fatalf("%+v by %+v: %+v, %d", from, e, got, err)
			}
			// Onto others: if not all were pushed, the others stay.
			want = other
			if e.Whole {
				want = from
			}
			want.CC, want.PC, want.S = e.Pushed, from.PC, other.S+uint16(len(b))
			if got, err := frame.Back(other, b); got != want || err != api.OK {
				t.Fatalf("%+v onto %+v by %+v: %+v, %d", from, other, e, got, err)
			}
		}
	}
}

// What is handed in stays, what is answered is new memory, and the same is answered again (P2 of DOC.md, rule 5).
func TestP2NewMemory(t *testing.T) {
	r := some()
	e := frame.Enter{Pushed: 0x19}
	for range 2 {
		got := frame.Bytes(r, e)
		if !slices.Equal(got, []byte{0x52, 0x51, 0x19}) || r != some() {
			t.Errorf("Bytes: % X, of %+v", got, r)
		}
		clear(got[:cap(got)])
	}
}
