package index_test

import (
	"math"
	"math/rand"
	"testing"

	"spinet/api"
	"spinet/index"
	"spinet/inst"
	"spinet/post"
)

// some: registers that all differ.
func some() api.Regs {
	return api.Regs{A: 0x05, B: 0xFE, DP: 0x83, CC: 0x84, X: 0x1112, Y: 0x2122, U: 0xF1F2, S: 0x4142, PC: 0xE1E2}
}

// random: any registers; words are often at an end.
func random(r *rand.Rand) api.Regs {
	ends := []uint16{0, 1, 2, 127, 128, 255, 256, 32767, 32768, 65533, 65534, 65535}
	w := func() uint16 {
		if r.Intn(2) == 0 {
			return ends[r.Intn(len(ends))]
		}
		return uint16(r.Intn(65536))
	}
	b := func() byte { return byte(w()) }
	return api.Regs{A: b(), B: b(), DP: b(), CC: b(), X: w(), Y: w(), U: w(), S: w(), PC: w()}
}

// wrap: a number modulo 65536.
func wrap(n int) uint16 { return uint16((n%65536 + 65536) % 65536) }

// signed: a byte as a number with its sign.
func signed(b byte) int {
	if b > 127 {
		return int(b) - 256
	}
	return int(b)
}

// pointer: the register that a postbyte's bits 64 and 32 tell.
func pointer(r *api.Regs, b int) *uint16 {
	return []*uint16{&r.X, &r.Y, &r.U, &r.S}[b/32%4]
}

// wanted: what a postbyte says of an address, straight from the document, and the registers then.
func wanted(b int, r api.Regs, value, next uint16) (uint16, api.Regs) {
	p := pointer(&r, b)
	was := int(*p)
	if b < 128 {
		off := b % 32
		if off > 15 {
			off -= 32
		}
		return wrap(was + off), r
	}
	switch b % 16 {
	case 0, 1:
		*p = wrap(was + 1 + b%16)
		return wrap(was), r
	case 2, 3:
		*p = wrap(was + 1 - b%16)
		return *p, r
	case 5:
		return wrap(was + signed(r.B)), r
	case 6:
		return wrap(was + signed(r.A)), r
	case 8, 9:
		return wrap(was + int(value)), r
	case 11:
		return wrap(was + int(r.A)*256 + int(r.B)), r
	case 12, 13:
		return wrap(int(next) + int(value)), r
	case 15:
		return value, r
	}
	return wrap(was), r
}

func TestP20_1Of(t *testing.T) {
	r := rand.New(rand.NewSource(20))
	for b := range 256 {
		for range 300 {
			regs := random(r)
			value, next := random(r).X, random(r).Y
			at, then := index.Of(post.Of(byte(b)), regs, value, next)
			if a, w := wanted(b, regs, value, next); at != a || then != w {
				t.Fatalf("Of(%X, %+v, %X, %X): %X, %+v, not %X, %+v", b, regs, value, next, at, then, a, w)
			}
		}
	}
}

// known is a postbyte, what stands behind it, and the address that it makes of some().
type known struct {
	b     byte
	value uint16
	at    uint16
	then  func(*api.Regs)
}

// sheet: one of each kind, and the edges.
func sheet() []known {
	stays := func(*api.Regs) {}
	return []known{
		{0x84, 7, 0x1112, stays},
		{0xA4, 7, 0x2122, stays},
		{0xC4, 7, 0xF1F2, stays},
		{0xE4, 7, 0x4142, stays},
		{0x87, 7, 0x1112, stays},
		{0x9A, 7, 0x1112, stays},
		{0xEE, 7, 0x4142, stays},
		{0x01, 7, 0x1113, stays},
		{0x3F, 7, 0x2121, stays},
		{0x50, 7, 0xF1E2, stays},
		{0x6F, 7, 0x4151, stays},
		{0x88, 0x0080, 0x1192, stays},
		{0x88, 0xFF80, 0x1092, stays},
		{0xA9, 0xFFFF, 0x2121, stays},
		{0x86, 7, 0x1117, stays},
		{0xA5, 7, 0x2120, stays},
		{0x8B, 7, 0x1710, stays},
		{0xCB, 7, 0xF7F0, stays},
		{0x80, 7, 0x1112, func(r *api.Regs) { r.X = 0x1113 }},
		{0xB1, 7, 0x2122, func(r *api.Regs) { r.Y = 0x2124 }},
		{0xC2, 7, 0xF1F1, func(r *api.Regs) { r.U = 0xF1F1 }},
		{0xF3, 7, 0x4140, func(r *api.Regs) { r.S = 0x4140 }},
		{0x8C, 0xFFFE, 0x0FFE, stays},
		{0xED, 0x0010, 0x1010, stays},
		{0x9F, 0x0010, 0x0010, stays},
		{0xEF, 0xFFFF, 0xFFFF, stays},
	}
}

func TestP20_1OfSome(t *testing.T) {
	for _, k := range sheet() {
		want := some()
		k.then(&want)
		if at, then := index.Of(post.Of(k.b), some(), k.value, 0x1000); at != k.at || then != want {
			t.Errorf("Of(%X): %X, %+v, not %X, %+v", k.b, at, then, k.at, want)
		}
	}
	if at, then := index.Of(post.Of(0x81), api.Regs{X: 5}, 0, 0); at != 5 || then != (api.Regs{X: 7}) {
		t.Errorf("X++: %d, %v", at, then)
	}
}

func TestP20_1OfWraps(t *testing.T) {
	top := api.Regs{A: 127, B: 128, X: 65535, Y: 65534, U: 1, S: 0}
	cases := []struct {
		b    byte
		r    api.Regs
		at   uint16
		then api.Regs
	}{
		{0x80, api.Regs{X: 65535}, 65535, api.Regs{X: 0}},
		{0x81, api.Regs{X: 65535}, 65535, api.Regs{X: 1}},
		{0xA1, api.Regs{Y: 65534}, 65534, api.Regs{Y: 0}},
		{0xE2, api.Regs{S: 0}, 65535, api.Regs{S: 65535}},
		{0xC3, api.Regs{U: 1}, 65535, api.Regs{U: 65535}},
		{0x01, top, 0, top},
		{0x70, top, 65520, top},
		{0x86, top, 126, top},
		{0xE5, top, 65408, top},
		{0x8B, api.Regs{A: 255, B: 255, X: 65535}, 65534, api.Regs{A: 255, B: 255, X: 65535}},
		{0x8B, api.Regs{A: 1, X: 65535}, 255, api.Regs{A: 1, X: 65535}},
	}
	for _, c := range cases {
		if at, then := index.Of(post.Of(c.b), c.r, 0, 0); at != c.at || then != c.then {
			t.Errorf("Of(%X, %+v): %d, %+v, not %d, %+v", c.b, c.r, at, then, c.at, c.then)
		}
	}
}

// The address behind the instruction counts, not PC; and it counts for these two kinds alone.
func TestP20_1Next(t *testing.T) {
	for b := range 256 {
		p := post.Of(byte(b))
		one, _ := index.Of(p, api.Regs{}, 3, 0x1000)
		two, _ := index.Of(p, api.Regs{PC: 9}, 3, 0x1001)
		relative := b > 127 && (b%16 == 12 || b%16 == 13)
		if relative && (one != 0x1003 || two != 0x1004) || !relative && one != two {
			t.Errorf("Of(%X): %X, %X", b, one, two)
		}
	}
}

func TestP20_2Direct(t *testing.T) {
	for dp := range 256 {
		for low := range 256 {
			if got := index.Direct(byte(dp), byte(low)); int(got) != dp*256+low {
				t.Fatalf("Direct(%d, %d): %d", dp, low, got)
			}
		}
	}
}

// instructions calls with an instruction of every opcode and every second byte, and its bytes from the opcode on.
func instructions(t *testing.T, call func(i api.Inst, b []byte)) {
	t.Helper()
	r := rand.New(rand.NewSource(21))
	for p := 1; p <= 3; p++ {
		for code := range 256 {
			if p == 1 && (code == 16 || code == 17) {
				continue
			}
			for second := range 256 {
				b := []byte{byte(code), byte(second), byte(r.Intn(256)), byte(r.Intn(256))}
				whole := b
				if p > 1 {
					whole = append([]byte{byte(14 + p)}, b...)
				}
				i, e := inst.Of(whole...)
				if e != api.OK {
					t.Fatal(whole, e)
				}
				call(i, b)
			}
		}
	}
}

func TestP20_2Inst(t *testing.T) {
	r := rand.New(rand.NewSource(22))
	made := map[int]int{}
	instructions(t, func(i api.Inst, b []byte) {
		regs, at := random(r), random(r).X
		to, then, ok := index.Inst(i, regs, at)
		wantTo, wantThen, want := uint16(0), regs, true
		switch i.Entry.Mode {
		case api.ModeDir:
			wantTo = uint16(regs.DP)*256 + uint16(b[1])
		case api.ModeExt:
			wantTo = uint16(b[1])*256 + uint16(b[2])
		case api.ModeIdx:
			wantTo, wantThen = wanted(int(b[1]), regs, i.Value, wrap(int(at)+i.Len))
		default:
			want = false
		}
		if to != wantTo || then != wantThen || ok != want {
			t.Fatalf("Inst(%+v, %+v, %X): %X, %+v, %v, not %X, %+v, %v", i, regs, at, to, then, ok, wantTo, wantThen, want)
		}
		made[i.Entry.Mode]++
	})
	for mode := range 10 {
		if made[mode] == 0 {
			t.Errorf("no instruction of the mode %d", mode)
		}
	}
}

func TestP20_2InstSome(t *testing.T) {
	moved := some()
	moved.X += 2
	cases := []struct {
		b    []byte
		at   uint16
		to   uint16
		then api.Regs
		ok   bool
	}{
		{[]byte{0x96, 0x12}, 0, 0x8312, some(), true},
		{[]byte{0xB7, 0x12, 0x34}, 0, 0x1234, some(), true},
		{[]byte{0xA6, 0x81}, 0, 0x1112, moved, true},
		{[]byte{0xA6, 0x9F, 0x12, 0x34}, 0, 0x1234, some(), true},
		{[]byte{0xA6, 0x88, 0xFF}, 0, 0x1111, some(), true},
		// Behind the instruction: of three, of four, and with a prefix of four and of five bytes.
		{[]byte{0xA6, 0x8C, 0xFD}, 0x1000, 0x1000, some(), true},
		{[]byte{0xA6, 0x8D, 0, 1}, 0x1000, 0x1005, some(), true},
		{[]byte{0x10, 0xAE, 0x8C, 0}, 0x1000, 0x1004, some(), true},
		{[]byte{0x11, 0xA3, 0x8D, 0, 0}, 0xFFFE, 0x0003, some(), true},
		{[]byte{0x30, 0x01}, 0, 0x1113, some(), true},
		{[]byte{0x86, 5}, 0x1000, 0, some(), false},
		{[]byte{0x8E, 5, 6}, 0x1000, 0, some(), false},
		{[]byte{0x12}, 0x1000, 0, some(), false},
		{[]byte{0x20, 0xFE}, 0x1000, 0, some(), false},
		{[]byte{0x16, 0, 0}, 0x1000, 0, some(), false},
		{[]byte{0x1E, 0x12}, 0x1000, 0, some(), false},
		{[]byte{0x34, 0xFF}, 0x1000, 0, some(), false},
		{[]byte{0x87}, 0x1000, 0, some(), false},
	}
	for _, c := range cases {
		i, e := inst.Of(c.b...)
		if e != api.OK {
			t.Fatal(c.b, e)
		}
		if to, then, ok := index.Inst(i, some(), c.at); to != c.to || then != c.then || ok != c.ok {
			t.Errorf("% X: %X, %+v, %v, not %X, %+v, %v", c.b, to, then, ok, c.to, c.then, c.ok)
		}
	}
}

// Raw values have an answer, too, and the same one again (P1 and P2 of DOC.md).
func TestP1P2RawValues(t *testing.T) {
	numbers := []int{-1, 0, 1, 3, 4, 5, 6, 9, 10, 12, 14, 16, 256, math.MaxInt, math.MinInt}
	for _, kind := range numbers {
		for _, reg := range numbers {
			p := post.Post{Kind: kind, Reg: reg, Off: 65535, Indirect: true}
			at, then := index.Of(p, some(), 65535, 65535)
			if a, w := index.Of(p, some(), 65535, 65535); a != at || w != then {
				t.Errorf("%+v: %d, then %d", p, at, a)
			}
		}
	}
	for _, mode := range numbers {
		i := api.Inst{Page: mode, Entry: api.Entry{Op: mode, Mode: mode, Reg: mode}, Post: 255, Value: 65535, Len: mode}
		to, then, ok := index.Inst(i, some(), 65535)
		if ok != (mode == 3 || mode == 4 || mode == 5) || !ok && (to != 0 || then != some()) {
			t.Errorf("%+v: %d, %+v, %v", i, to, then, ok)
		}
	}
}
