package inst_test

import (
	"math"
	"math/rand"
	"slices"
	"testing"

	"spinet/api"
	"spinet/inst"
	"spinet/page"
)

// lengths: how many bytes the opcodes of the page 1 have, sixteen a line, written by hand (with the postbyte, without what it asks for); what isn't listed has 1. A p is a prefix.
const lengths = `
2112212222212222
pp11113311212122
2222222222222222
2222222211112111
1111111111111111
1111111111111111
2112212222212222
3113313333313333
2223222122223231
2222222222222222
2222222222222222
3333333333333333
2223222122223131
2222222222222222
2222222222222222
3333333333333333`

// values: what stands behind: none, a byte, s a byte with its sign, w two bytes, x what a postbyte asks for, p a postbyte alone.
const values = `
b--bb-bbbbb-bbbb
------ww--b-b-pp
ssssssssssssssss
xxxxpppp----b---
----------------
----------------
x--xx-xxxxx-xxxx
w--ww-wwwww-wwww
bbbwbbb-bbbbwsw-
bbbbbbbbbbbbbbbb
xxxxxxxxxxxxxxxx
wwwwwwwwwwwwwwww
bbbwbbb-bbbbw-w-
bbbbbbbbbbbbbbbb
xxxxxxxxxxxxxxxx
wwwwwwwwwwwwwwww`

// behind: how many bytes an opcode has with its prefix and its postbyte, and what stands behind it.
func behind(p int, code byte) (int, byte) {
	place := 1 + int(code>>4)*17 + int(code&15)
	n, v := int(lengths[place]-'0'), values[place]
	switch {
	case p == 1:
		return n, v
	case page.Of(p, code) == (api.Entry{}):
		return 2, '-'
	case p == 2 && code>>4 == 2:
		return 4, 'w'
	}
	// Of the page 1 stands something as long at the same place.
	return n + 1, v
}

// asked: how many bytes a postbyte asks for.
func asked(post byte) int {
	if post < 128 {
		return 0
	}
	return [16]int{8: 1, 9: 2, 12: 1, 13: 2, 15: 2}[post%16]
}

// wanted: the instruction with which bytes begin, of a page and an opcode that stands behind so many bytes; they are enough.
func wanted(p int, code byte, b []byte, at int) api.Inst {
	n, v := behind(p, code)
	i := api.Inst{Page: p, Code: code, Entry: page.Of(p, code), Len: n}
	rest := b[at+1:]
	signed := func(x byte) uint16 {
		if x > 127 {
			return 65280 + uint16(x)
		}
		return uint16(x)
	}
	switch v {
	case 'b':
		i.Value = uint16(rest[0])
	case 's':
		i.Value = signed(rest[0])
	case 'w':
		i.Value = uint16(rest[0])*256 + uint16(rest[1])
	case 'p':
		i.Post = rest[0]
	case 'x':
		i.Post = rest[0]
		i.Len += asked(i.Post)
		switch asked(i.Post) {
		case 1:
			i.Value = signed(rest[1])
		case 2:
			i.Value = uint16(rest[1])*256 + uint16(rest[2])
		}
	}
	return i
}

// opcodes calls with all opcodes of all pages, and with many bytes that begin with each.
func opcodes(call func(p int, code byte, b []byte, at int)) {
	r := rand.New(rand.NewSource(18))
	for p := 1; p <= 3; p++ {
		for code := range 256 {
			if p == 1 && (code == 16 || code == 17) {
				continue
			}
			for second := range 256 {
				b := make([]byte, 8)
				r.Read(b)
				at := 0
				if p > 1 {
					b[0] = byte(14 + p)
					at = 1
				}
				b[at], b[at+1] = byte(code), byte(second)
				call(p, byte(code), b, at)
			}
		}
	}
}

func TestP18_1Of(t *testing.T) {
	opcodes(func(p int, code byte, b []byte, at int) {
		want := wanted(p, code, b, at)
		// It is the same whether other bytes stand behind it or not.
		for n := want.Len; n <= len(b); n++ {
			if got, e := inst.Of(b[:n]...); got != want || e != api.OK {
				t.Fatalf("Of(% X): %+v, %d, not %+v", b[:n], got, e, want)
			}
		}
		for n := range want.Len {
			if got, e := inst.Of(b[:n]...); got != (api.Inst{}) || e != api.ErrShort {
				t.Fatalf("Of(% X): %+v, %d", b[:n], got, e)
			}
		}
	})
}

func TestP18_1OfSome(t *testing.T) {
	cases := []struct {
		b    []byte
		want api.Inst
	}{
		{[]byte{0x10, 0x27, 0xFF, 0xFC}, api.Inst{Page: 2, Code: 0x27, Entry: api.Entry{Op: api.OpLbr, Mode: api.ModeRelw, Reg: 7}, Value: 0xFFFC, Len: 4}},
		{[]byte{0x86, 0x85}, api.Inst{Page: 1, Code: 0x86, Entry: api.Entry{Op: api.OpLd, Mode: api.ModeImm, Reg: api.RegA}, Value: 0x85, Len: 2}},
		{[]byte{0x96, 0x85}, api.Inst{Page: 1, Code: 0x96, Entry: api.Entry{Op: api.OpLd, Mode: api.ModeDir, Reg: api.RegA}, Value: 0x85, Len: 2}},
		{[]byte{0x20, 0xFE}, api.Inst{Page: 1, Code: 0x20, Entry: api.Entry{Op: api.OpBr, Mode: api.ModeRel}, Value: 0xFFFE, Len: 2}},
		{[]byte{0xB7, 1, 2}, api.Inst{Page: 1, Code: 0xB7, Entry: api.Entry{Op: api.OpSt, Mode: api.ModeExt, Reg: api.RegA}, Value: 0x102, Len: 3}},
		{[]byte{0xA6, 0x84}, api.Inst{Page: 1, Code: 0xA6, Entry: api.Entry{Op: api.OpLd, Mode: api.ModeIdx, Reg: api.RegA}, Post: 0x84, Len: 2}},
		{[]byte{0xA6, 0x88, 0x80}, api.Inst{Page: 1, Code: 0xA6, Entry: api.Entry{Op: api.OpLd, Mode: api.ModeIdx, Reg: api.RegA}, Post: 0x88, Value: 0xFF80, Len: 3}},
		{[]byte{0xA6, 0x9F, 0xFF, 0}, api.Inst{Page: 1, Code: 0xA6, Entry: api.Entry{Op: api.OpLd, Mode: api.ModeIdx, Reg: api.RegA}, Post: 0x9F, Value: 0xFF00, Len: 4}},
		{[]byte{0x10, 0xAF, 0xEF, 1, 2}, api.Inst{Page: 2, Code: 0xAF, Entry: api.Entry{Op: api.OpStw, Mode: api.ModeIdx, Reg: api.RegY}, Post: 0xEF, Value: 0x102, Len: 5}},
		{[]byte{0x1E, 0x89}, api.Inst{Page: 1, Code: 0x1E, Entry: api.Entry{Op: api.OpExg, Mode: api.ModePair}, Post: 0x89, Len: 2}},
		{[]byte{0x34, 0xFF}, api.Inst{Page: 1, Code: 0x34, Entry: api.Entry{Op: api.OpPsh, Mode: api.ModeMany, Reg: api.RegS}, Post: 0xFF, Len: 2}},
		{[]byte{0x12}, api.Inst{Page: 1, Code: 0x12, Entry: api.Entry{Op: api.OpNop}, Len: 1}},
		{[]byte{0x11, 0x3F}, api.Inst{Page: 3, Code: 0x3F, Entry: api.Entry{Op: api.OpSwi, Reg: 3}, Len: 2}},
		// What isn't listed has its opcode alone; a prefix behind a prefix is such a one.
		{[]byte{0x87, 1, 2}, api.Inst{Page: 1, Code: 0x87, Len: 1}},
		{[]byte{0x10, 0x86, 5}, api.Inst{Page: 2, Code: 0x86, Len: 2}},
		{[]byte{0x10, 0x10, 0x3F}, api.Inst{Page: 2, Code: 0x10, Len: 2}},
		{[]byte{0x10, 0x11, 0x3F}, api.Inst{Page: 2, Code: 0x11, Len: 2}},
		{[]byte{0x11, 0x10, 0x3F}, api.Inst{Page: 3, Code: 0x10, Len: 2}},
		{[]byte{0x11, 0x20, 0x3F}, api.Inst{Page: 3, Code: 0x20, Len: 2}},
	}
	for _, c := range cases {
		if got, e := inst.Of(c.b...); got != c.want || e != api.OK {
			t.Errorf("Of(% X): %+v, %d, not %+v", c.b, got, e, c.want)
		}
	}
	for _, b := range [][]byte{nil, {}, {0x10}, {0x11}, {0x86}, {0xB7, 1}, {0xA6}, {0xA6, 0x88}, {0xA6, 0x9F, 1}, {0x10, 0x27, 0}, {0x1E}, {0x34}, {0x20}} {
		if got, e := inst.Of(b...); got != (api.Inst{}) || e != api.ErrShort {
			t.Errorf("Of(% X): %+v, %d", b, got, e)
		}
	}
}

func TestP18_2PutSame(t *testing.T) {
	opcodes(func(p int, code byte, b []byte, at int) {
		i := wanted(p, code, b, at)
		own := b[:i.Len]
		if got, e := inst.Put(i); !slices.Equal(got, own) || e != api.OK {
			t.Fatalf("Put(%+v): % X, %d, not % X", i, got, e, own)
		}
		if !inst.Same(i, b...) || !inst.Same(i, own...) {
			t.Fatalf("Same(%+v, % X): false", i, b)
		}
		for n := range i.Len {
			if inst.Same(i, b[:n]...) {
				t.Fatalf("Same(%+v, % X): true", i, b[:n])
			}
			other := slices.Clone(b)
			other[n] ^= 1
			if inst.Same(i, other...) {
				t.Fatalf("Same(%+v, % X): true", i, other)
			}
		}
	})
}

// changed: an instruction of which one field is another one, in many ways.
func changed(i api.Inst) []api.Inst {
	var out []api.Inst
	put := func(change func(j *api.Inst, n int)) {
		for _, n := range []int{-1, 0, 1, 2, 3, 4, 5, 6, 7, 8, 9, 16, 17, 128, 255, 256, 65280, 65535, math.MaxInt, math.MinInt} {
			j := i
			change(&j, n)
			out = append(out, j)
		}
	}
	put(func(j *api.Inst, n int) { j.Page = n })
	put(func(j *api.Inst, n int) { j.Code = byte(n) })
	put(func(j *api.Inst, n int) { j.Entry.Op = n })
	put(func(j *api.Inst, n int) { j.Entry.Mode = n })
	put(func(j *api.Inst, n int) { j.Entry.Reg = n })
	put(func(j *api.Inst, n int) { j.Post = byte(n) })
	put(func(j *api.Inst, n int) { j.Value = uint16(n) })
	put(func(j *api.Inst, n int) { j.Len = n })
	put(func(j *api.Inst, n int) { j.Len += n })
	return out
}

// is: is there an instruction like this? By the document: what its page, its opcode, its postbyte and its value make is it itself.
func is(i api.Inst) bool {
	if i.Page < 1 || i.Page > 3 || i.Page == 1 && page.Prefix(i.Code) > 0 {
		return false
	}
	hi, lo := byte(i.Value/256), byte(i.Value%256)
	_, v := behind(i.Page, i.Code)
	at := min(i.Page, 2) - 1
	b := make([]byte, at, 8)
	b = append(b, i.Code)
	switch {
	case v == 'b' || v == 's':
		b = append(b, lo)
	case v == 'w':
		b = append(b, hi, lo)
	case v == 'p' || v == 'x' && asked(i.Post) == 0:
		b = append(b, i.Post)
	case v == 'x' && asked(i.Post) == 1:
		b = append(b, i.Post, lo)
	case v == 'x':
		b = append(b, i.Post, hi, lo)
	}
	return wanted(i.Page, i.Code, b, at) == i
}

func TestP18_2PutMadeUp(t *testing.T) {
	good, bad := 0, 0
	opcodes(func(p int, code byte, b []byte, at int) {
		if b[at+1]%32 != 8 && b[at+1]%32 != 31 {
			return
		}
		for _, i := range changed(wanted(p, code, b, at)) {
			got, e := inst.Put(i)
			if is(i) {
				good++
				if again, e2 := inst.Of(got...); e != api.OK || e2 != api.OK || again != i || len(got) != i.Len {
					t.Fatalf("Put(%+v): % X, %d", i, got, e)
				}
				continue
			}
			bad++
			if len(got) != 0 || e != api.ErrArg || inst.Same(i, b...) || inst.Same(i) {
				t.Fatalf("Put(%+v): % X, %d", i, got, e)
			}
		}
	})
	if good < 1000 || bad < 1000 {
		t.Errorf("only %d instructions, %d others", good, bad)
	}
}

func TestP18_2PutErrors(t *testing.T) {
	lda := api.Entry{Op: api.OpLd, Mode: api.ModeImm, Reg: api.RegA}
	indexed := api.Entry{Op: api.OpLd, Mode: api.ModeIdx, Reg: api.RegA}
	for _, i := range []api.Inst{
		{},
		{Page: 1},
		{Page: 1, Code: 0x12, Len: 1},
		{Page: 1, Code: 0x10, Len: 1},
		{Page: 1, Code: 0x11, Len: 2},
		{Page: 0, Code: 0x86, Entry: lda, Value: 5, Len: 2},
		{Page: 4, Code: 0x86, Entry: lda, Value: 5, Len: 2},
		{Page: 2, Code: 0x86, Entry: lda, Value: 5, Len: 3},
		{Page: 1, Code: 0x86, Entry: lda, Value: 5, Len: 1},
		{Page: 1, Code: 0x86, Entry: lda, Value: 5, Len: 3},
		{Page: 1, Code: 0x86, Entry: lda, Value: 256, Len: 2},
		{Page: 1, Code: 0x86, Entry: lda, Value: 0xFFFF, Len: 2},
		{Page: 1, Code: 0x86, Entry: lda, Post: 1, Len: 2},
		{Page: 1, Code: 0x86, Value: 5, Len: 2},
		{Page: 1, Code: 0x87, Value: 5, Len: 1},
		{Page: 1, Code: 0xA6, Entry: indexed, Post: 0x84, Value: 1, Len: 2},
		{Page: 1, Code: 0xA6, Entry: indexed, Post: 0x88, Value: 128, Len: 3},
		{Page: 1, Code: 0xA6, Entry: indexed, Post: 0x88, Value: 0xFF7F, Len: 3},
		{Page: 1, Code: 0xA6, Entry: indexed, Post: 0x89, Value: 1, Len: 3},
		{Page: 1, Code: 0x20, Entry: api.Entry{Op: api.OpBr, Mode: api.ModeRel}, Value: 128, Len: 2},
		{Page: 1, Code: 0x21, Entry: api.Entry{Op: api.OpBr, Mode: api.ModeRel}, Value: 1, Len: 2},
		{Page: math.MinInt, Code: 255, Entry: api.Entry{Op: math.MaxInt, Mode: math.MinInt, Reg: -1}, Post: 255, Value: 65535, Len: math.MaxInt},
	} {
		if got, e := inst.Put(i); len(got) != 0 || e != api.ErrArg {
			t.Errorf("Put(%+v): % X, %d", i, got, e)
		}
		if inst.Same(i) || inst.Same(i, 0) || inst.Same(i, 0x86, 5) || inst.Same(i, 0x12, 0, 0) {
			t.Errorf("Same(%+v): true", i)
		}
	}
}

func TestP18_3NextTarget(t *testing.T) {
	opcodes(func(p int, code byte, b []byte, at int) {
		i := wanted(p, code, b, at)
		for _, here := range []int{0, 1, 0x1000, 0x7FFF, 0x8000, 0xFFFB, 0xFFFC, 0xFFFD, 0xFFFE, 0xFFFF} {
			next := (here + i.Len) % 65536
			if got := inst.Next(i, uint16(here)); int(got) != next {
				t.Fatalf("Next(%+v, %X): %X", i, here, got)
			}
			want, branch := 0, i.Entry.Mode == api.ModeRel || i.Entry.Mode == api.ModeRelw
			if branch {
				want = (next + int(i.Value)) % 65536
			}
			if got, ok := inst.Target(i, uint16(here)); int(got) != want || ok != branch {
				t.Fatalf("Target(%+v, %X): %X, %v", i, here, got, ok)
			}
		}
	})
}

func TestP18_3TargetSome(t *testing.T) {
	cases := []struct {
		b    []byte
		at   uint16
		want uint16
		ok   bool
	}{
		{[]byte{0x10, 0x27, 0xFF, 0xFC}, 0x1000, 0x1000, true},
		{[]byte{0x20, 0xFE}, 0x1000, 0x1000, true},
		{[]byte{0x20, 0x7F}, 0, 0x81, true},
		{[]byte{0x20, 0x80}, 0, 0xFF82, true},
		{[]byte{0x8D, 0}, 0xFFFE, 0, true},
		{[]byte{0x16, 0x80, 0}, 0x7FFD, 0, true},
		{[]byte{0x17, 0, 1}, 0xFFFF, 3, true},
		{[]byte{0x10, 0x21, 1, 0}, 0, 0x104, true},
		{[]byte{0x7E, 0x12, 0x34}, 0x1000, 0, false},
		{[]byte{0x12}, 0x1000, 0, false},
		{[]byte{0x10, 0x20}, 0x1000, 0, false},
	}
	for _, c := range cases {
		i, _ := inst.Of(c.b...)
		if got, ok := inst.Target(i, c.at); got != c.want || ok != c.ok {
			t.Errorf("Target of % X at %X: %X, %v", c.b, c.at, got, ok)
		}
	}
}

// Raw values have an answer, too (rule 1 of DOC.md): the length is taken modulo 65536.
func TestP18_3RawValues(t *testing.T) {
	for _, n := range []int{0, -1, -65537, 65536, 65541, 1 << 40, math.MaxInt, math.MinInt} {
		want := uint16(((5+n%65536)%65536 + 65536) % 65536)
		if got := inst.Next(api.Inst{Len: n}, 5); got != want {
			t.Errorf("Next of %d bytes at 5: %d, not %d", n, got, want)
		}
	}
	for mode := -3; mode < 20; mode++ {
		i := api.Inst{Entry: api.Entry{Mode: mode}, Value: 3, Len: 2}
		want, branch := uint16(0), mode == 6 || mode == 7
		if branch {
			want = 10
		}
		if got, ok := inst.Target(i, 5); got != want || ok != branch {
			t.Errorf("Target of the mode %d: %d, %v", mode, got, ok)
		}
	}
}

// What is handed in stays, and two answers share no memory (P2 of DOC.md, rule 5).
func TestP2NewMemory(t *testing.T) {
	b := append(make([]byte, 0, 6), 0xB7, 1, 2)
	i, _ := inst.Of(b...)
	first, _ := inst.Put(i)
	clear(first[:cap(first)])
	if second, e := inst.Put(i); !slices.Equal(second, b) || e != api.OK {
		t.Errorf("Put a second time: % X, %d", second, e)
	}
	if again, e := inst.Of(b...); again != i || e != api.OK || !inst.Same(i, b...) {
		t.Errorf("Of a second time: %+v, %d", again, e)
	}
	if !slices.Equal(b[:6], []byte{0xB7, 1, 2, 0, 0, 0}) {
		t.Errorf("what was given has changed: % X", b[:6])
	}
}
