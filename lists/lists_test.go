package lists_test

import (
	"math"
	"math/rand"
	"slices"
	"strings"
	"testing"

	"spinet/api"
	"spinet/lists"
)

// stacks are the codes of both stacks, and of others, which stand for S.
var stacks = []int{api.RegS, api.RegU, 0, 1, -1, 5, 256 + api.RegU, math.MaxInt, math.MinInt}

// bit is what the document says of a bit of a postbyte.
type bit struct {
	on   byte
	name string
	code int
	wide bool
}

// bits: of a stack, the least first.
func bits(stack int) []bit {
	other := bit{64, "U", api.RegU, true}
	if stack == api.RegU {
		other = bit{64, "S", api.RegS, true}
	}
	return []bit{
		{1, "CC", api.RegCC, false}, {2, "A", api.RegA, false}, {4, "B", api.RegB, false}, {8, "DP", api.RegDP, false},
		{16, "X", api.RegX, true}, {32, "Y", api.RegY, true}, other, {128, "PC", api.RegPC, true},
	}
}

func TestP17_1OrderCount(t *testing.T) {
	for _, stack := range stacks {
		for n := range 256 {
			var want []lists.Part
			for _, b := range bits(stack) {
				if byte(n)&b.on == 0 {
					continue
				}
				if b.wide {
					want = append(want, lists.Part{Reg: b.code, High: true})
				}
				want = append(want, lists.Part{Reg: b.code, High: false})
			}
			if got := lists.Order(byte(n), stack); !slices.Equal(got, want) {
				t.Errorf("Order(%d, %d): %v, not %v", n, stack, got, want)
			}
			if got := lists.Count(byte(n)); got != len(want) {
				t.Errorf("Count(%d): %d, not %d", n, got, len(want))
			}
		}
	}
	if lists.Count(255) != 12 || lists.Count(129) != 3 || lists.Count(0) != 0 {
		t.Errorf("Count: %d, %d, %d", lists.Count(255), lists.Count(129), lists.Count(0))
	}
}

func TestP17_1OrderSome(t *testing.T) {
	cases := []struct {
		post  byte
		stack int
		want  []lists.Part
	}{
		{129, api.RegS, []lists.Part{{Reg: 10}, {Reg: 5, High: true}, {Reg: 5}}},
		{64, api.RegS, []lists.Part{{Reg: 3, High: true}, {Reg: 3}}},
		{64, api.RegU, []lists.Part{{Reg: 4, High: true}, {Reg: 4}}},
		{6, api.RegU, []lists.Part{{Reg: 8}, {Reg: 9}}},
		{0, api.RegS, nil},
		{255, api.RegS, []lists.Part{
			{Reg: 10}, {Reg: 8}, {Reg: 9}, {Reg: 11}, {Reg: 1, High: true}, {Reg: 1}, {Reg: 2, High: true}, {Reg: 2},
			{Reg: 3, High: true}, {Reg: 3}, {Reg: 5, High: true}, {Reg: 5},
		}},
	}
	for _, c := range cases {
		if got := lists.Order(c.post, c.stack); !slices.Equal(got, c.want) {
			t.Errorf("Order(%d, %d): %v", c.post, c.stack, got)
		}
	}
}

// random: any registers.
func random(r *rand.Rand) api.Regs {
	w := func() uint16 { return uint16(r.Intn(65536)) }
	b := func() byte { return byte(r.Intn(256)) }
	return api.Regs{A: b(), B: b(), DP: b(), CC: b(), X: w(), Y: w(), U: w(), S: w(), PC: w()}
}

// halves: the high and the low byte that a register tells, by the document.
func halves(r api.Regs, code int) (byte, byte) {
	split := func(w uint16) (byte, byte) { return byte(w / 256), byte(w % 256) }
	switch code {
	case api.RegD:
		return r.A, r.B
	case api.RegX:
		return split(r.X)
	case api.RegY:
		return split(r.Y)
	case api.RegU:
		return split(r.U)
	case api.RegS:
		return split(r.S)
	case api.RegPC:
		return split(r.PC)
	case api.RegA:
		return 255, r.A
	case api.RegB:
		return 255, r.B
	case api.RegCC:
		return 255, r.CC
	case api.RegDP:
		return 255, r.DP
	}
	return 255, 255
}

// after: the registers, one of which has these bytes then.
func after(r api.Regs, code int, hi, lo byte) api.Regs {
	w := uint16(hi)*256 + uint16(lo)
	switch code {
	case api.RegD:
		r.A, r.B = hi, lo
	case api.RegX:
		r.X = w
	case api.RegY:
		r.Y = w
	case api.RegU:
		r.U = w
	case api.RegS:
		r.S = w
	case api.RegPC:
		r.PC = w
	case api.RegA:
		r.A = lo
	case api.RegB:
		r.B = lo
	case api.RegCC:
		r.CC = lo
	case api.RegDP:
		r.DP = lo
	}
	return r
}

func TestP17_2ByteWith(t *testing.T) {
	codes := []int{0, 1, 2, 3, 4, 5, 6, 7, 8, 9, 10, 11, 12, 13, 14, 15, 16, -1, 256, math.MaxInt, math.MinInt}
	r := rand.New(rand.NewSource(17))
	for range 500 {
		regs := random(r)
		for _, code := range codes {
			hi, lo := halves(regs, code)
			if got := lists.Byte(regs, lists.Part{Reg: code, High: true}); got != hi {
				t.Fatalf("the high byte of %d of %v: %d", code, regs, got)
			}
			if got := lists.Byte(regs, lists.Part{Reg: code}); got != lo {
				t.Fatalf("the low byte of %d of %v: %d", code, regs, got)
			}
			b := byte(r.Intn(256))
			if got, want := lists.With(regs, lists.Part{Reg: code, High: true}, b), after(regs, code, b, lo); got != want {
				t.Fatalf("%v with %d as the high byte of %d: %v", regs, b, code, got)
			}
			if got, want := lists.With(regs, lists.Part{Reg: code}, b), after(regs, code, hi, b); got != want {
				t.Fatalf("%v with %d as the low byte of %d: %v", regs, b, code, got)
			}
		}
	}
}

// What a postbyte pushes, and pulls again, is what was there: all Parts together are the registers.
func TestP17_2AllParts(t *testing.T) {
	r := rand.New(rand.NewSource(18))
	for n := range 256 {
		for _, stack := range stacks[:2] {
			from, to := random(r), random(r)
			want := to
			for _, b := range bits(stack) {
				if byte(n)&b.on > 0 {
					hi, lo := halves(from, b.code)
					want = after(want, b.code, hi, lo)
				}
			}
			for _, p := range lists.Order(byte(n), stack) {
				to = lists.With(to, p, lists.Byte(from, p))
			}
			if to != want {
				t.Fatalf("all Parts of %d: %v, not %v", n, to, want)
			}
		}
	}
}

// written: the names of a postbyte, by the document.
func written(post byte, stack int) []string {
	var names []string
	for _, b := range bits(stack) {
		if post&b.on > 0 {
			names = append(names, b.name)
		}
	}
	return names
}

func TestP17_3Text(t *testing.T) {
	for _, stack := range stacks {
		for n := range 256 {
			if got, want := lists.Text(byte(n), stack), strings.Join(written(byte(n), stack), ","); got != want {
				t.Errorf("Text(%d, %d): %s, not %s", n, stack, got, want)
			}
		}
	}
	if got := lists.Text(255, api.RegS); got != "CC,A,B,DP,X,Y,U,PC" {
		t.Errorf("Text(255, S): %s", got)
	}
	if got := lists.Text(208, api.RegU); got != "X,S,PC" {
		t.Errorf("Text(208, U): %s", got)
	}
}

func TestP17_3Read(t *testing.T) {
	r := rand.New(rand.NewSource(19))
	for _, stack := range stacks {
		for n := range 256 {
			names := written(byte(n), stack)
			for range 4 {
				s := strings.Join(names, ",")
				if got, e := lists.Read(s, stack); int(got) != n || e != api.OK {
					t.Fatalf("Read(%q, %d): %d, %d, not %d", s, stack, got, e, n)
				}
				r.Shuffle(len(names), func(i, j int) { names[i], names[j] = names[j], names[i] })
			}
			if n&6 > 0 {
				continue
			}
			// D is both of A and B, wherever it stands.
			s := strings.Join(slices.Insert(names, r.Intn(len(names)+1), "D"), ",")
			if got, e := lists.Read(s, stack); int(got) != n+6 || e != api.OK {
				t.Fatalf("Read(%q, %d): %d, %d, not %d", s, stack, got, e, n+6)
			}
		}
	}
	if got, e := lists.Read("D,X", api.RegS); got != 22 || e != api.OK {
		t.Errorf("Read(D,X): %d, %d", got, e)
	}
}

func TestP17_3ReadErrors(t *testing.T) {
	cases := []struct {
		s     string
		stack int
		want  api.Errno
	}{
		{"S", api.RegS, api.ErrName},
		{"U", api.RegU, api.ErrName},
		{"S", 0, api.ErrName},
		{"A,S", api.RegS, api.ErrName},
		{"Q", api.RegS, api.ErrName},
		{"a", api.RegS, api.ErrName},
		{" A", api.RegS, api.ErrName},
		{"A ", api.RegS, api.ErrName},
		{"A, B", api.RegS, api.ErrName},
		{",", api.RegS, api.ErrName},
		{"A,", api.RegS, api.ErrName},
		{",A", api.RegS, api.ErrName},
		{"A,,B", api.RegS, api.ErrName},
		{"AB", api.RegS, api.ErrName},
		{"A;B", api.RegS, api.ErrName},
		{"PCR", api.RegS, api.ErrName},
		{"W", api.RegS, api.ErrName},
		{"\x00", api.RegS, api.ErrName},
		{strings.Repeat("A", 1000), api.RegS, api.ErrName},
		{"A,A", api.RegS, api.ErrTwice},
		{"PC,X,PC", api.RegU, api.ErrTwice},
		{"D,D", api.RegS, api.ErrTwice},
		{"D,A", api.RegS, api.ErrTwice},
		{"D,B", api.RegS, api.ErrTwice},
		{"A,D", api.RegS, api.ErrTwice},
		{"B,X,D", api.RegS, api.ErrTwice},
		{"S,S", api.RegU, api.ErrTwice},
		{strings.Repeat("X,", 1000) + "Q", api.RegS, api.ErrTwice},
		// Of several that are wrong it is the first one.
		{"A,A,Q", api.RegS, api.ErrTwice},
		{"A,Q,A", api.RegS, api.ErrName},
		{"A,A,", api.RegS, api.ErrTwice},
		{",A,A", api.RegS, api.ErrName},
	}
	for _, c := range cases {
		if got, e := lists.Read(c.s, c.stack); got != 0 || e != c.want {
			t.Errorf("Read(%q, %d): %d, %d, not %d", c.s, c.stack, got, e, c.want)
		}
	}
	for _, stack := range stacks {
		if got, e := lists.Read("", stack); got != 0 || e != api.OK {
			t.Errorf("Read of nothing: %d, %d", got, e)
		}
		for _, b := range bits(stack) {
			for _, s := range []string{b.name + "," + b.name, b.name + ",D," + b.name, "Y,X," + b.name + "," + b.name} {
				if got, e := lists.Read(s, stack); got != 0 || e != api.ErrTwice {
					t.Errorf("Read(%q, %d): %d, %d", s, stack, got, e)
				}
			}
		}
	}
}

// Two answers share no memory, and the same is answered again (P2 of DOC.md, rule 5).
func TestP2NewMemory(t *testing.T) {
	want := []lists.Part{{Reg: api.RegCC}, {Reg: api.RegPC, High: true}, {Reg: api.RegPC}}
	first := lists.Order(129, api.RegS)
	clear(first[:cap(first)])
	if second := lists.Order(129, api.RegS); !slices.Equal(second, want) {
		t.Errorf("Order a second time: %v", second)
	}
	regs := api.Regs{X: 0x1234}
	if got := lists.With(regs, lists.Part{Reg: api.RegX}, 0); got.X != 0x1200 || regs.X != 0x1234 {
		t.Errorf("With: %v, %v", got, regs)
	}
	for range 2 {
		if lists.Text(129, api.RegS) != "CC,PC" || lists.Byte(regs, lists.Part{Reg: api.RegX, High: true}) != 0x12 {
			t.Error("something else is answered the second time")
		}
	}
}
