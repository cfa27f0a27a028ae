package file_test

import (
	"math"
	"math/rand"
	"testing"

	"spinet/api"
	"spinet/file"
)

// strange are numbers of no register.
var strange = []int{6, 7, 12, 13, 14, 15, 16, 17, -1, -5, 24, 255, 256, 264, 1 << 32, math.MaxInt, math.MinInt}

// some: registers that all differ, in both bytes of the words.
func some() api.Regs {
	return api.Regs{A: 0x01, B: 0x02, DP: 0x83, CC: 0x84, X: 0x1112, Y: 0x2122, U: 0xF1F2, S: 0x4142, PC: 0xE1E2}
}

// random: any registers.
func random(r *rand.Rand) api.Regs {
	w := func() uint16 { return uint16(r.Intn(65536)) }
	b := func() byte { return byte(r.Intn(256)) }
	return api.Regs{A: b(), B: b(), DP: b(), CC: b(), X: w(), Y: w(), U: w(), S: w(), PC: w()}
}

// words: what each register tells, by the document.
func words(r api.Regs) map[int]uint16 {
	return map[int]uint16{
		0: uint16(r.A)*256 + uint16(r.B), 1: r.X, 2: r.Y, 3: r.U, 4: r.S, 5: r.PC,
		8: 65280 + uint16(r.A), 9: 65280 + uint16(r.B), 10: 65280 + uint16(r.CC), 11: 65280 + uint16(r.DP),
	}
}

// after: the registers, of which one has a word then, by the document.
func after(r api.Regs, code int, w uint16) api.Regs {
	switch code {
	case 0:
		r.A, r.B = byte(w/256), byte(w%256)
	case 1:
		r.X = w
	case 2:
		r.Y = w
	case 3:
		r.U = w
	case 4:
		r.S = w
	case 5:
		r.PC = w
	case 8:
		r.A = byte(w % 256)
	case 9:
		r.B = byte(w % 256)
	case 10:
		r.CC = byte(w % 256)
	case 11:
		r.DP = byte(w % 256)
	}
	return r
}

func TestP16_1Get(t *testing.T) {
	r := rand.New(rand.NewSource(16))
	for n := range 1000 {
		regs := some()
		if n > 0 {
			regs = random(r)
		}
		f := file.File{Regs: regs}
		for code, want := range words(regs) {
			if got := f.Get(code); got != want {
				t.Fatalf("Get(%d) of %v: %d, not %d", code, regs, got, want)
			}
		}
		for _, code := range strange {
			if got := f.Get(code); got != 65535 {
				t.Fatalf("Get(%d) of %v: %d", code, regs, got)
			}
		}
		if f.Regs != regs {
			t.Fatalf("Get changed %v: %v", regs, f.Regs)
		}
	}
	f := file.File{Regs: api.Regs{A: 1, B: 2}}
	if f.Get(api.RegD) != 258 || f.Get(api.RegA) != 65281 {
		t.Errorf("of A 1, B 2: %d, %d", f.Get(api.RegD), f.Get(api.RegA))
	}
}

func TestP16_1ZeroValue(t *testing.T) {
	var f file.File
	for code := range 16 {
		want := words(api.Regs{})
		if _, ok := want[code]; !ok {
			want[code] = 65535
		}
		if got := f.Get(code); got != want[code] {
			t.Errorf("Get(%d) of a zero file: %d", code, got)
		}
	}
	if !f.Set(api.RegX, 5) || f.X != 5 || f.Regs.X != 5 {
		t.Errorf("Set of a zero file: %v", f)
	}
}

func TestP16_1Set(t *testing.T) {
	r := rand.New(rand.NewSource(17))
	for n := range 1000 {
		regs := random(r)
		w := uint16(r.Intn(65536))
		if n < 4 {
			w = []uint16{0, 255, 256, 65535}[n]
		}
		for code := range words(regs) {
			f := file.File{Regs: regs}
			if ok := f.Set(code, w); !ok || f.Regs != after(regs, code, w) {
				t.Fatalf("Set(%d, %d) of %v: %v, %v", code, w, regs, f.Regs, ok)
			}
		}
		for _, code := range strange {
			f := file.File{Regs: regs}
			if ok := f.Set(code, w); ok || f.Regs != regs {
				t.Fatalf("Set(%d, %d) of %v: %v, %v", code, w, regs, f.Regs, ok)
			}
		}
	}
}

// told: what a code tells, whatever it is.
func told(r api.Regs, code int) uint16 {
	if w, ok := words(r)[code]; ok {
		return w
	}
	return 65535
}

func TestP16_2TfrExg(t *testing.T) {
	r := rand.New(rand.NewSource(18))
	for n := range 20 {
		regs := some()
		if n > 0 {
			regs = random(r)
		}
		for high := range 16 {
			for low := range 16 {
				f := file.File{Regs: regs}
				a, b := told(regs, high), told(regs, low)
				if stack := f.Tfr(byte(16*high + low)); f.Regs != after(regs, low, a) || stack != (low == 4) {
					t.Fatalf("Tfr(%X%X) of %v: %v, %v", high, low, regs, f.Regs, stack)
				}
				f = file.File{Regs: regs}
				want := after(after(regs, low, a), high, b)
				if stack := f.Exg(byte(16*high + low)); f.Regs != want || stack != (low == 4 || high == 4) {
					t.Fatalf("Exg(%X%X) of %v: %v, %v", high, low, regs, f.Regs, stack)
				}
			}
		}
	}
}

func TestP16_2TfrExgSome(t *testing.T) {
	cases := []struct {
		name  string
		call  func(*file.File, byte) bool
		post  byte
		want  func(*api.Regs)
		stack bool
	}{
		{"Tfr", (*file.File).Tfr, 0x12, func(r *api.Regs) { r.Y = 0x1112 }, false},
		{"Tfr", (*file.File).Tfr, 0x21, func(r *api.Regs) { r.X = 0x2122 }, false},
		{"Tfr", (*file.File).Tfr, 0x14, func(r *api.Regs) { r.S = 0x1112 }, true},
		{"Tfr", (*file.File).Tfr, 0x41, func(r *api.Regs) { r.X = 0x4142 }, false},
		{"Tfr", (*file.File).Tfr, 0x44, func(r *api.Regs) {}, true},
		{"Tfr", (*file.File).Tfr, 0x64, func(r *api.Regs) { r.S = 65535 }, true},
		{"Tfr", (*file.File).Tfr, 0x81, func(r *api.Regs) { r.X = 0xFF01 }, false},
		{"Tfr", (*file.File).Tfr, 0x18, func(r *api.Regs) { r.A = 0x12 }, false},
		{"Tfr", (*file.File).Tfr, 0x6A, func(r *api.Regs) { r.CC = 255 }, false},
		{"Tfr", (*file.File).Tfr, 0x17, func(r *api.Regs) {}, false},
		{"Tfr", (*file.File).Tfr, 0x80, func(r *api.Regs) { r.A, r.B = 255, 1 }, false},
		{"Exg", (*file.File).Exg, 0x12, func(r *api.Regs) { r.X, r.Y = 0x2122, 0x1112 }, false},
		{"Exg", (*file.File).Exg, 0x14, func(r *api.Regs) { r.X, r.S = 0x4142, 0x1112 }, true},
		{"Exg", (*file.File).Exg, 0x41, func(r *api.Regs) { r.X, r.S = 0x4142, 0x1112 }, true},
		{"Exg", (*file.File).Exg, 0x44, func(r *api.Regs) {}, true},
		{"Exg", (*file.File).Exg, 0x89, func(r *api.Regs) { r.A, r.B = 2, 1 }, false},
		{"Exg", (*file.File).Exg, 0x61, func(r *api.Regs) { r.X = 65535 }, false},
		{"Exg", (*file.File).Exg, 0x4C, func(r *api.Regs) { r.S = 65535 }, true},
		{"Exg", (*file.File).Exg, 0xAB, func(r *api.Regs) { r.CC, r.DP = 0x83, 0x84 }, false},
		// A is a part of D: what is set last counts.
		{"Exg", (*file.File).Exg, 0x80, func(r *api.Regs) { r.A, r.B = 2, 1 }, false},
		{"Exg", (*file.File).Exg, 0x08, func(r *api.Regs) { r.A, r.B = 255, 1 }, false},
	}
	for _, c := range cases {
		want := some()
		c.want(&want)
		f := file.File{Regs: some()}
		if stack := c.call(&f, c.post); f.Regs != want || stack != c.stack {
			t.Errorf("%s(%X): %v, %v, not %v", c.name, c.post, f.Regs, stack, want)
		}
	}
}

func TestP16_2Pair(t *testing.T) {
	for from := -40; from < 300; from++ {
		for to := -40; to < 300; to++ {
			want := (from%16+16)%16*16 + (to%16+16)%16
			if got := file.Pair(from, to); int(got) != want {
				t.Fatalf("Pair(%d, %d): %d, not %d", from, to, got, want)
			}
		}
	}
	if got := file.Pair(math.MaxInt, math.MinInt); got != 0xF0 {
		t.Errorf("Pair of the ends: %X", got)
	}
	if got := file.Pair(api.RegX, api.RegS); got != 0x14 {
		t.Errorf("Pair(X, S): %X", got)
	}
}

// A file is a value of its own: a copy goes its own way (P2 of DOC.md).
func TestP2Copies(t *testing.T) {
	f := file.File{Regs: some()}
	g := f
	g.Set(api.RegX, 1)
	g.Exg(file.Pair(api.RegA, api.RegB))
	if f.Regs != some() {
		t.Errorf("the first one has changed: %v", f.Regs)
	}
	f.Tfr(file.Pair(api.RegY, api.RegX))
	if g.X != 1 || f.X != 0x2122 {
		t.Errorf("X is %d and %d", f.X, g.X)
	}
}
