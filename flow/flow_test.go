package flow_test

import (
	"math"
	"math/rand"
	"slices"
	"testing"

	"spinet/api"
	"spinet/asm"
	"spinet/cpu"
	"spinet/fast"
	"spinet/flow"
	"spinet/inst"
	"spinet/ram"
)

// of: the instruction of bytes.
func of(t *testing.T, b ...byte) api.Inst {
	t.Helper()
	i, e := inst.Of(b...)
	if e != api.OK {
		t.Fatalf("%X: %v", b, e)
	}
	return i
}

func TestP54_1Known(t *testing.T) {
	for _, c := range []struct {
		name string
		b    []byte
		at   uint16
		want []uint16
		all  bool
	}{
		{"NOP", []byte{0x12}, 0x1000, []uint16{0x1001}, true},
		{"NOP at the end", []byte{0x12}, 0xFFFF, []uint16{0}, true},
		{"LDA", []byte{0x86, 5}, 0x1000, []uint16{0x1002}, true},
		{"LBRA", []byte{0x16, 0x01, 0x00}, 0x1000, []uint16{0x1103}, true},
		{"LBRA back", []byte{0x16, 0xFF, 0xFD}, 0x1000, []uint16{0x1000}, true},
		{"BRA", []byte{0x20, 0xFE}, 0x1000, []uint16{0x1000}, true},
		{"BRA to what follows", []byte{0x20, 0}, 0x1000, []uint16{0x1002}, true},
		{"BRA around the end", []byte{0x20, 0x7F}, 0xFFF0, []uint16{0x0071}, true},
		{"BRN", []byte{0x21, 0xFE}, 0x1000, []uint16{0x1002}, true},
		{"LBRN", []byte{0x10, 0x21, 0, 5}, 0x1000, []uint16{0x1004}, true},
		{"BHI", []byte{0x22, 0x10}, 0x1000, []uint16{0x1012, 0x1002}, true},
		{"BNE back", []byte{0x26, 0x80}, 0x0000, []uint16{0xFF82, 0x0002}, true},
		{"BLE", []byte{0x2F, 0}, 0x1000, []uint16{0x1002, 0x1002}, true},
		{"LBEQ", []byte{0x10, 0x27, 0xFF, 0xFC}, 0x1000, []uint16{0x1000, 0x1004}, true},
		{"BSR", []byte{0x8D, 0x10}, 0x1000, []uint16{0x1012, 0x1002}, true},
		{"LBSR", []byte{0x17, 0x80, 0x00}, 0x1000, []uint16{0x9003, 0x1003}, true},
		{"JMP extended", []byte{0x7E, 0x12, 0x34}, 0x1000, []uint16{0x1234}, true},
		{"JMP direct", []byte{0x0E, 0x34}, 0x1000, nil, false},
		{"JMP indexed", []byte{0x6E, 0x84}, 0x1000, nil, false},
		{"JMP indirect", []byte{0x6E, 0x9F, 0x12, 0x34}, 0x1000, nil, false},
		{"JSR extended", []byte{0xBD, 0x12, 0x34}, 0x1000, []uint16{0x1234, 0x1003}, true},
		{"JSR direct", []byte{0x9D, 0x34}, 0x1000, []uint16{0x1002}, false},
		{"JSR indexed", []byte{0xAD, 0x88, 0x34}, 0xFFFF, []uint16{0x0002}, false},
		{"SWI", []byte{0x3F}, 0x1000, []uint16{0x1001}, false},
		{"SWI2", []byte{0x10, 0x3F}, 0x1000, []uint16{0x1002}, false},
		{"SWI3", []byte{0x11, 0x3F}, 0xFFFE, []uint16{0}, false},
		{"RTS", []byte{0x39}, 0x1000, nil, false},
		{"RTI", []byte{0x3B}, 0x1000, nil, false},
		{"TFR X,PC", []byte{0x1F, 0x15}, 0x1000, nil, false},
		{"TFR PC,X", []byte{0x1F, 0x51}, 0x1000, []uint16{0x1002}, true},
		{"TFR PC,PC", []byte{0x1F, 0x55}, 0x1000, nil, false},
		{"TFR of none to PC", []byte{0x1F, 0xF5}, 0x1000, nil, false},
		{"TFR A,DP", []byte{0x1F, 0x8B}, 0x1000, []uint16{0x1002}, true},
		{"TFR, no such register", []byte{0x1F, 0x1D}, 0x1000, []uint16{0x1002}, true},
		{"EXG X,PC", []byte{0x1E, 0x15}, 0x1000, nil, false},
		{"EXG PC,X", []byte{0x1E, 0x51}, 0x1000, nil, false},
		{"EXG PC,PC", []byte{0x1E, 0x55}, 0x1000, nil, false},
		{"EXG X,Y", []byte{0x1E, 0x12}, 0x1000, []uint16{0x1002}, true},
		{"EXG, no such register", []byte{0x1E, 0xDD}, 0x1000, []uint16{0x1002}, true},
		{"PULS PC", []byte{0x35, 0x80}, 0x1000, nil, false},
		{"PULU all", []byte{0x37, 0xFF}, 0x1000, nil, false},
		{"PULS all but PC", []byte{0x35, 0x7F}, 0x1000, []uint16{0x1002}, true},
		{"PULU none", []byte{0x37, 0x00}, 0x1000, []uint16{0x1002}, true},
		{"PSHS all", []byte{0x34, 0xFF}, 0x1000, []uint16{0x1002}, true},
		{"PSHU PC", []byte{0x36, 0x80}, 0x1000, []uint16{0x1002}, true},
		{"SYNC", []byte{0x13}, 0x1000, []uint16{0x1001}, true},
		{"CWAI", []byte{0x3C, 0xFF}, 0x1000, []uint16{0x1002}, true},
		{"LDD, whose bytes look like a postbyte", []byte{0xCC, 0x55, 0x85}, 0x1000, []uint16{0x1003}, true},
		{"LDA indexed, by PC", []byte{0xA6, 0x8D, 0, 5}, 0x1000, []uint16{0x1004}, true},
		{"LEAX, whose postbyte ends with 5", []byte{0x30, 0x85}, 0x1000, []uint16{0x1002}, true},
		{"none that is listed", []byte{0x01}, 0x1000, []uint16{0x1001}, true},
		{"a prefix, and none that is listed", []byte{0x10, 0x20}, 0x1000, []uint16{0x1002}, true},
	} {
		i := of(t, c.b...)
		got, all := flow.Next(i, c.at)
		if !slices.Equal(got, c.want) || all != c.all {
			t.Errorf("%s: %X, %v, not %X, %v", c.name, got, all, c.want, c.all)
		}
	}
}

// next: Next of bytes at an address, by their opcodes.
func next(b []byte, long int, at uint16) ([]uint16, bool) {
	n := at + uint16(long)
	word := func(i int) uint16 { return uint16(b[i])<<8 | uint16(b[i+1]) }
	short := n + uint16(int8(b[1]))
	switch code := b[0]; {
	case code == 0x10 && b[1] == 0x21, code == 0x21:
		return []uint16{n}, true
	case code == 0x10 && b[1] > 0x21 && b[1] < 0x30:
		return []uint16{n + word(2), n}, true
	case (code == 0x10 || code == 0x11) && b[1] == 0x3F, code == 0x3F:
		return []uint16{n}, false
	case code == 0x10, code == 0x11:
		return []uint16{n}, true
	case code == 0x16:
		return []uint16{n + word(1)}, true
	case code == 0x17:
		return []uint16{n + word(1), n}, true
	case code == 0x20:
		return []uint16{short}, true
	case code > 0x21 && code < 0x30, code == 0x8D:
		return []uint16{short, n}, true
	case code == 0x7E:
		return []uint16{word(1)}, true
	case code == 0xBD:
		return []uint16{word(1), n}, true
	case code == 0x9D, code == 0xAD:
		return []uint16{n}, false
	case code == 0x0E, code == 0x6E, code == 0x39, code == 0x3B:
		return nil, false
	case code == 0x1F && b[1]&15 == 5, code == 0x1E && (b[1]&15 == 5 || b[1]>>4 == 5), (code == 0x35 || code == 0x37) && b[1] > 127:
		return nil, false
	}
	return []uint16{n}, true
}

// each: so many times five bytes that begin with each opcode of each page.
func each(r *rand.Rand, many int, do func(b []byte)) {
	for page := range 3 {
		for code := range 256 {
			for range many {
				b := []byte{byte(code), byte(r.Intn(256)), byte(r.Intn(256)), byte(r.Intn(256)), byte(r.Intn(256))}
				if page > 0 {
					copy(b[1:], b[:4])
					b[0] = byte(0x0F + page)
				}
				do(b)
			}
		}
	}
}

func TestP54_1AllCodes(t *testing.T) {
	r := rand.New(rand.NewSource(541))
	each(r, 300, func(b []byte) {
		i := of(t, b...)
		for _, at := range []uint16{0, 0xFFFE, uint16(r.Intn(65536))} {
			got, all := flow.Next(i, at)
			want, wants := next(b, i.Len, at)
			if !slices.Equal(got, want) || all != wants {
				t.Fatalf("%X at %X: %X, %v, not %X, %v", b, at, got, all, want, wants)
			}
		}
	})
}

// An instruction goes nowhere else, if Next tells all.
func TestP54_1AsDone(t *testing.T) {
	r := rand.New(rand.NewSource(5411))
	m, _ := ram.New(nil, 65536)
	each(r, 40, func(b []byte) {
		w := func() uint16 { return uint16(r.Intn(65536)) }
		regs := api.Regs{A: byte(r.Intn(256)), B: byte(r.Intn(256)), CC: byte(r.Intn(256)), X: w(), Y: w(), U: w(), S: w(), PC: w() % 65000}
		m.Load(int(regs.PC), b...)
		i := fast.Decode(regs.PC, m)
		l, all := flow.Next(i, regs.PC)
		if got := fast.Step(regs, m).Regs.PC; all && !slices.Contains(l, got) {
			t.Fatalf("%X at %X goes to %X, not %X", b, regs.PC, got, l)
		}
	})
}

// holding: memory with a program's bytes.
func holding(t *testing.T, text string) *ram.Ram {
	t.Helper()
	p, line, e := asm.Assemble(text)
	if e != api.OK {
		t.Fatalf("the line %d: %v", line, e)
	}
	m, e := ram.New(p.Image(), 65536)
	if e != api.OK {
		t.Fatal(e)
	}
	return m
}

// program goes to both sides, and calls.
const program = `
        ORG $1000
        LDA #5          ; 1000
        BEQ equal       ; 1002
        JSR >$2000      ; 1004
        RTS             ; 1007
equal:  BSR call        ; 1008
        SWI             ; 100A
        BRA equal       ; 100B
        NOP             ; 100D: nobody comes here
call:   JMP ,X          ; 100E
        ORG $2000
        PULS A,B        ; 2000
        LBRN $3000      ; 2002
        PULS PC         ; 2006
`

func TestP54_2Known(t *testing.T) {
	m := holding(t, program)
	all := []uint16{0x1000, 0x1002, 0x1004, 0x1007, 0x1008, 0x100A, 0x100B, 0x100E, 0x2000, 0x2002, 0x2006}
	// In the order in which they are looked at.
	order := []uint16{0x1000, 0x1002, 0x1008, 0x1004, 0x100E, 0x100A, 0x2000, 0x1007, 0x100B, 0x2002, 0x2006}
	for most := -2; most < 15; most++ {
		want := slices.Clone(order[:min(max(most, 0), len(order))])
		slices.Sort(want)
		if got := flow.Reach(m, most, 0x1000); !slices.Equal(got, want) {
			t.Errorf("at most %d: %X, not %X", most, got, want)
		}
	}
	for _, most := range []int{math.MaxInt, 65536, 11} {
		if got := flow.Reach(m, most, 0x1000, 0x1000); !slices.Equal(got, all) {
			t.Errorf("at most %d: %X, not %X", most, got, all)
		}
	}
	for _, most := range []int{math.MinInt, -1, 0} {
		if got := flow.Reach(m, most, 0x1000); len(got) != 0 {
			t.Errorf("at most %d: %X", most, got)
		}
	}
	for _, c := range []struct {
		most       int
		from, want []uint16
	}{
		{99, nil, nil},
		{99, []uint16{}, nil},
		{99, []uint16{0x2002}, []uint16{0x2002, 0x2006}},
		{99, []uint16{0x2006, 0x1007, 0x100E}, []uint16{0x1007, 0x100E, 0x2006}},
		{99, []uint16{0x100D}, []uint16{0x100D, 0x100E}},
		{2, []uint16{0x2006, 0x1007, 0x100E}, []uint16{0x1007, 0x2006}},
		{2, []uint16{0x2006, 0x2006, 0x2006, 0x1007}, []uint16{0x1007, 0x2006}},
		// Those that are given come ahead of all others.
		{3, []uint16{0x1000, 0x2000, 0x2006}, []uint16{0x1000, 0x2000, 0x2006}},
		{4, []uint16{0x1000, 0x2000, 0x2006}, []uint16{0x1000, 0x1002, 0x2000, 0x2006}},
		{5, []uint16{0x2000, 0x1000, 0x2006}, []uint16{0x1000, 0x1002, 0x2000, 0x2002, 0x2006}},
		{6, []uint16{0x2000, 0x1000, 0x2006}, []uint16{0x1000, 0x1002, 0x1008, 0x2000, 0x2002, 0x2006}},
		// Of a given one that one comes to, too, once.
		{8, []uint16{0x1002, 0x1000, 0x1002}, []uint16{0x1000, 0x1002, 0x1004, 0x1007, 0x1008, 0x100A, 0x100E, 0x2000}},
	} {
		given := slices.Clone(c.from)
		got := flow.Reach(m, c.most, given...)
		if !slices.Equal(got, c.want) || !slices.Equal(given, c.from) {
			t.Errorf("at most %d, from %X: %X, not %X", c.most, c.from, got, c.want)
		}
		clear(got)
		if !slices.Equal(given, c.from) {
			t.Errorf("what is answered is what came in")
		}
	}
}

// reach: Reach, by a plain row of those that are still to be looked at.
func reach(m cpu.Memory, most int, from []uint16) []uint16 {
	var seen []uint16
	for todo := slices.Clone(from); len(todo) > 0 && len(seen) < most; {
		at := todo[0]
		todo = todo[1:]
		if slices.Contains(seen, at) {
			continue
		}
		seen = append(seen, at)
		b := make([]byte, 5)
		for i := range b {
			b[i] = m.Read(at + uint16(i))
		}
		l, _ := next(b, fast.Decode(at, m).Len, at)
		todo = append(todo, l...)
	}
	slices.Sort(seen)
	return seen
}

// anyMemory: bytes of which many branch.
func anyMemory(r *rand.Rand) *ram.Ram {
	image := make([]byte, 65536)
	r.Read(image)
	for range 9000 {
		copy(image[r.Intn(65530):], [][]byte{{0x26}, {0x8D}, {0x20}, {0x16}, {0x7E}, {0x10, 0x26}, {0xBD}, {0x12}}[r.Intn(8)])
	}
	m, _ := ram.New(image, 65536)
	return m
}

func TestP54_2Any(t *testing.T) {
	r := rand.New(rand.NewSource(542))
	for range 60 {
		m := anyMemory(r)
		before := m.Copy()
		for range 10 {
			most := r.Intn(60)
			from := make([]uint16, r.Intn(6))
			for i := range from {
				from[i] = uint16(r.Intn(65536))
			}
			if got, want := flow.Reach(m, most, from...), reach(m, most, from); !slices.Equal(got, want) {
				t.Fatalf("at most %d, from %X: %X, not %X", most, from, got, want)
			}
		}
		if !ram.Same(m, before) {
			t.Fatal("memory is another one")
		}
	}
}

// filled: memory of one byte.
func filled(b byte) *ram.Ram {
	m, _ := ram.New(slices.Repeat([]byte{b}, 65536), 65536)
	return m
}

func TestP54_2All(t *testing.T) {
	got := flow.Reach(filled(0x12), math.MaxInt, 5)
	if len(got) != 65536 || !slices.IsSorted(got) || got[0] != 0 || got[65535] != 65535 {
		t.Errorf("%d addresses", len(got))
	}
	got = flow.Reach(filled(0x12), 65535, 5)
	if len(got) != 65535 || slices.Contains(got, 4) {
		t.Errorf("%d addresses", len(got))
	}
	// Of NEG, direct, all even ones.
	got = flow.Reach(filled(0), math.MaxInt, 6)
	if len(got) != 32768 || got[1] != 2 || got[32767] != 65534 {
		t.Errorf("%d addresses", len(got))
	}
	var from []uint16
	for at := range 65536 {
		from = append(from, uint16(65535-at), uint16(65535-at))
	}
	if got := flow.Reach(filled(0x39), math.MaxInt, from...); len(got) != 65536 || !slices.IsSorted(got) {
		t.Errorf("%d addresses", len(got))
	}
	if got := flow.Reach(filled(0x39), 3, from...); !slices.Equal(got, []uint16{65533, 65534, 65535}) {
		t.Errorf("%d", got)
	}
}

func TestP54_3Known(t *testing.T) {
	m := holding(t, program+`
        ORG $4000
        BRA last        ; 4000: it goes on behind itself
last:   LBRA more       ; 4002: so does this one
more:   BNE other       ; 4005: goes on behind itself on both ways
other:  BRN *           ; 4007
        JMP >$400C      ; 4009: this one, too
        BRA *           ; 400C
        ORG $5000
        JSR >$5003      ; 5000: there and back are the same, but two
        RTI             ; 5003
        NOP             ; 5004
        SWI             ; 5005
        ORG $FFFE
        NOP
        NOP
`)
	m.Load(0, 0x12, 0x39)
	for _, c := range []struct {
		at   uint16
		most int
		many int
		end  uint16
	}{
		{0x1000, 99, 2, 0x1004},
		{0x1000, 2, 2, 0x1004},
		{0x1000, 1, 1, 0x1002},
		{0x1000, 0, 0, 0x1000},
		{0x1000, -1, 0, 0x1000},
		{0x1234, math.MinInt, 0, 0x1234},
		{0x1004, 99, 1, 0x1007},
		{0x1007, 99, 1, 0x1008},
		{0x1008, 99, 1, 0x100A},
		{0x100A, 99, 1, 0x100B},
		{0x100B, 99, 1, 0x100D},
		{0x100D, 99, 2, 0x1010},
		{0x100D, math.MaxInt, 2, 0x1010},
		{0x2000, 99, 3, 0x2008},
		{0x2000, 2, 2, 0x2006},
		{0x4000, 99, 3, 0x4007},
		{0x4002, 99, 2, 0x4007},
		{0x4005, 99, 1, 0x4007},
		{0x4007, 99, 3, 0x400E},
		{0x400C, 99, 1, 0x400E},
		{0x5000, 99, 1, 0x5003},
		{0x5003, 99, 1, 0x5004},
		{0x5004, 99, 2, 0x5006},
		{0xFFFE, 99, 4, 2},
		{0xFFFE, 2, 2, 0},
		{0xFFFF, 1, 1, 0},
	} {
		if many, end := flow.Straight(m, c.at, c.most); many != c.many || end != c.end {
			t.Errorf("from %X, at most %d: %d, %X, not %d, %X", c.at, c.most, many, end, c.many, c.end)
		}
	}
}

// straight: Straight, one by one.
func straight(m cpu.Memory, at uint16, most int) (int, uint16) {
	n := 0
	for n < most {
		b := make([]byte, 5)
		for i := range b {
			b[i] = m.Read(at + uint16(i))
		}
		i := fast.Decode(at, m)
		l, all := next(b, i.Len, at)
		n++
		at += uint16(i.Len)
		if !all || len(l) != 1 || l[0] != at {
			break
		}
	}
	return n, at
}

func TestP54_3Any(t *testing.T) {
	r := rand.New(rand.NewSource(543))
	for range 40 {
		m := anyMemory(r)
		before := m.Copy()
		for range 50 {
			at, most := uint16(r.Intn(65536)), r.Intn(20)
			many, end := flow.Straight(m, at, most)
			if n, want := straight(m, at, most); many != n || end != want {
				t.Fatalf("from %X, at most %d: %d, %X, not %d, %X", at, most, many, end, n, want)
			}
		}
		if !ram.Same(m, before) {
			t.Fatal("memory is another one")
		}
	}
}

// Where nothing ends it, it goes round.
func TestP54_3Round(t *testing.T) {
	// Of three bytes, so that one comes by all addresses; of two; and one that comes into a round from outside.
	odd := filled(0x12)
	odd.Poke(0x8000, 0x10)
	odd.Poke(0x8001, 0x21)
	for name, m := range map[string]*ram.Ram{"NOP": filled(0x12), "three bytes": filled(0xCC), "NEG": filled(0), "one of four": odd} {
		for _, most := range []int{65534, 65535, 65536, 65537, 65540, 131071, 131072, 131073, 200000} {
			for _, at := range []uint16{0, 5, 0x8001, 0x8002, 0xFFFF} {
				many, end := flow.Straight(m, at, most)
				if n, want := straight(m, at, most); many != n || end != want {
					t.Fatalf("%s, from %X, at most %d: %d, %X, not %d, %X", name, at, most, many, end, n, want)
				}
			}
		}
	}
	// 2^63 - 1 is 65535 behind a number of whole rounds.
	if many, end := flow.Straight(filled(0x12), 7, math.MaxInt); many != math.MaxInt || end != 6 {
		t.Errorf("%d, %X", many, end)
	}
	if many, end := flow.Straight(filled(0), 7, math.MaxInt); many != math.MaxInt || end != 5 {
		t.Errorf("%d, %X", many, end)
	}
}

// raw is any Inst, also such as nobody tells.
func raw(r *rand.Rand) api.Inst {
	number := func() int { return []int{math.MinInt, -1, 0, 1, 5, 255, math.MaxInt, r.Intn(60)}[r.Intn(8)] }
	return api.Inst{
		Page: number(), Code: byte(r.Intn(256)), Entry: api.Entry{Op: r.Intn(60) - 4, Mode: r.Intn(14) - 2, Reg: number()},
		Post: byte(r.Intn(256)), Value: uint16(r.Intn(65536)), Len: number(),
	}
}

// broken is memory that panics.
type broken struct{}

func (broken) Read(uint16) byte        { panic("read") }
func (broken) Write(uint16, byte) bool { panic("write") }

func TestP1Any(t *testing.T) {
	r := rand.New(rand.NewSource(1))
	for range 20000 {
		flow.Next(raw(r), uint16(r.Intn(65536)))
	}
	// As layer 37 has it, no memory is one of bytes 0.
	for _, m := range []cpu.Memory{nil, (*ram.Ram)(nil), broken{}} {
		if got := flow.Reach(m, 3, 4); !slices.Equal(got, []uint16{4, 6, 8}) {
			t.Errorf("%d", got)
		}
		if many, end := flow.Straight(m, 4, 3); many != 3 || end != 10 {
			t.Errorf("%d, %d", many, end)
		}
	}
}

func TestP2Again(t *testing.T) {
	m := holding(t, program)
	i := of(t, 0xBD, 0x12, 0x34)
	for range 3 {
		l, _ := flow.Next(i, 0)
		if !slices.Equal(l, []uint16{0x1234, 3}) {
			t.Errorf("%X", l)
		}
		clear(l)
		if got := flow.Reach(m, 99, 0x2002); !slices.Equal(got, []uint16{0x2002, 0x2006}) {
			t.Errorf("%X", got)
		}
	}
}
