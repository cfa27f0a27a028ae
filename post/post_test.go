package post_test

import (
	"math"
	"testing"

	"spinet/post"
)

// half is what a lower half stands for, from 128 on: the kind's number, and the cycles that it costs (without and with an indirection), written by hand.
type half struct{ kind, bytes, idle, extra, through int }

// halves are all sixteen.
func halves() [16]half {
	return [16]half{
		0:  {7, 0, 3, 2, 5},
		1:  {8, 0, 4, 3, 6},
		2:  {9, 0, 3, 2, 5},
		3:  {10, 0, 4, 3, 6},
		4:  {0, 0, 1, 0, 3},
		5:  {5, 0, 2, 1, 4},
		6:  {4, 0, 2, 1, 4},
		7:  {0, 0, 1, 0, 3},
		8:  {2, 1, 1, 1, 4},
		9:  {3, 2, 3, 4, 7},
		10: {0, 0, 1, 0, 3},
		11: {6, 0, 5, 4, 7},
		12: {11, 1, 1, 1, 4},
		13: {12, 2, 4, 5, 8},
		14: {0, 0, 1, 0, 3},
		15: {13, 2, 1, 5, 5},
	}
}

func TestP15_1Of(t *testing.T) {
	for b := range 256 {
		want := post.Post{Kind: 1, Reg: 1 + b/32%4}
		if b < 128 {
			n := b % 32
			if n > 15 {
				n += 65536 - 32
			}
			want.Off = uint16(n)
		} else {
			want.Kind = halves()[b%16].kind
			want.Indirect = b/16%2 == 1
			switch b % 16 {
			case 12, 13:
				want.Reg = 5
			case 15:
				want.Reg, want.Indirect = 0, true
			}
		}
		if got := post.Of(byte(b)); got != want {
			t.Errorf("Of(%d): %v, not %v", b, got, want)
		}
	}
}

func TestP15_1OfSome(t *testing.T) {
	for b, want := range map[byte]post.Post{
		0x00: {Kind: post.Five, Reg: 1},
		0x0F: {Kind: post.Five, Reg: 1, Off: 15},
		0x10: {Kind: post.Five, Reg: 1, Off: 65520},
		0x3F: {Kind: post.Five, Reg: 2, Off: 65535},
		0x41: {Kind: post.Five, Reg: 3, Off: 1},
		0x7F: {Kind: post.Five, Reg: 4, Off: 65535},
		0x80: {Kind: post.Inc1, Reg: 1},
		0x90: {Kind: post.Inc1, Reg: 1, Indirect: true},
		0xA1: {Kind: post.Inc2, Reg: 2},
		0xC2: {Kind: post.Dec1, Reg: 3},
		0xF3: {Kind: post.Dec2, Reg: 4, Indirect: true},
		0x84: {Kind: post.Plain, Reg: 1},
		0xE5: {Kind: post.AccB, Reg: 4},
		0x86: {Kind: post.AccA, Reg: 1},
		0xB7: {Kind: post.Plain, Reg: 2, Indirect: true},
		0x88: {Kind: post.One, Reg: 1},
		0x99: {Kind: post.Two, Reg: 1, Indirect: true},
		0xCA: {Kind: post.Plain, Reg: 3},
		0xEB: {Kind: post.AccD, Reg: 4},
		0x8C: {Kind: post.PcOne, Reg: 5},
		0xEC: {Kind: post.PcOne, Reg: 5},
		0x9D: {Kind: post.PcTwo, Reg: 5, Indirect: true},
		0xFE: {Kind: post.Plain, Reg: 4, Indirect: true},
		0x8F: {Kind: post.Far, Indirect: true},
		0x9F: {Kind: post.Far, Indirect: true},
		0xEF: {Kind: post.Far, Indirect: true},
	} {
		if got := post.Of(b); got != want {
			t.Errorf("Of(%X): %v, not %v", b, got, want)
		}
	}
}

func TestP15_1KindNumbers(t *testing.T) {
	got := []int{
		post.Plain, post.Five, post.One, post.Two, post.AccA, post.AccB, post.AccD,
		post.Inc1, post.Inc2, post.Dec1, post.Dec2, post.PcOne, post.PcTwo, post.Far,
	}
	for want, n := range got {
		if n != want {
			t.Errorf("the kind %d has the number %d", want, n)
		}
	}
}

func TestP15_2BytesIdleExtra(t *testing.T) {
	for b := range 256 {
		want := half{1, 0, 2, 1, 4}
		if b >= 128 {
			want = halves()[b%16]
		}
		if b >= 128 && b/16%2 == 1 {
			want.extra = want.through
		}
		p := post.Of(byte(b))
		if p.Bytes() != want.bytes || p.Idle() != want.idle || p.Extra() != want.extra {
			t.Errorf("%X: %d bytes, %d idle, %d extra, not %v", b, p.Bytes(), p.Idle(), p.Extra(), want)
		}
	}
}

// Raw values have an answer, too (rule 1 of DOC.md).
func TestP15_2RawValues(t *testing.T) {
	for _, kind := range []int{-1, 14, 15, 255, 256, 258, 1<<32 + 2, math.MaxInt, math.MinInt} {
		for _, through := range []bool{false, true} {
			p := post.Post{Kind: kind, Reg: math.MinInt, Off: 65535, Indirect: through}
			extra := 0
			if through {
				extra = 3
			}
			if p.Bytes() != 0 || p.Idle() != 1 || p.Extra() != extra {
				t.Errorf("%v: %d, %d, %d", p, p.Bytes(), p.Idle(), p.Extra())
			}
			if b, ok := p.Code(); ok {
				t.Errorf("Code of %v: %d", p, b)
			}
		}
	}
}

func TestP15_3Code(t *testing.T) {
	for b := range 256 {
		want := b
		switch {
		case b < 128:
		case b%16 == 15:
			want = 159
		case b%16 == 12 || b%16 == 13:
			want = b - b/32%4*32
		case halves()[b%16].kind == post.Plain:
			want = b - b%16 + 4
		}
		if got, ok := post.Of(byte(b)).Code(); int(got) != want || !ok {
			t.Errorf("Code of %X: %X, %v, not %X", b, got, ok, want)
		}
	}
}

// Of all Posts of small numbers just those that a postbyte says have a code, and it says them.
func TestP15_3CodeEach(t *testing.T) {
	said := map[post.Post]bool{}
	for b := range 256 {
		said[post.Of(byte(b))] = true
	}
	offs := []uint16{0, 1, 14, 15, 16, 17, 31, 32, 255, 32767, 32768, 65504, 65519, 65520, 65521, 65535}
	for kind := -2; kind < 17; kind++ {
		for reg := -2; reg < 12; reg++ {
			for _, off := range offs {
				for _, through := range []bool{false, true} {
					p := post.Post{Kind: kind, Reg: reg, Off: off, Indirect: through}
					b, ok := p.Code()
					if ok != said[p] || ok && post.Of(b) != p {
						t.Errorf("Code of %v: %X, %v", p, b, ok)
					}
				}
			}
		}
	}
}

func TestP15_3CodeWrong(t *testing.T) {
	for _, p := range []post.Post{
		{},
		{Kind: post.Plain, Reg: 5},
		{Kind: post.Plain, Reg: 1, Off: 1},
		{Kind: post.Five, Reg: 1, Off: 16},
		{Kind: post.Five, Reg: 1, Off: 65519},
		{Kind: post.Five, Reg: 1, Indirect: true},
		{Kind: post.Five, Reg: 5},
		{Kind: post.One, Reg: 0},
		{Kind: post.One, Reg: 1, Off: 5},
		{Kind: post.PcOne, Reg: 1},
		{Kind: post.PcTwo},
		{Kind: post.Far},
		{Kind: post.Far, Reg: 1, Indirect: true},
		{Kind: post.Far, Off: 1, Indirect: true},
	} {
		if b, ok := p.Code(); ok {
			t.Errorf("Code of %v: %X", p, b)
		}
	}
}

// The same is answered again, and a Post that was asked stays (P2 of DOC.md).
func TestP2SameAgain(t *testing.T) {
	p := post.Of(159)
	for range 2 {
		if b, ok := p.Code(); b != 159 || !ok || p.Extra() != 5 || p != post.Of(159) {
			t.Error("something else is answered the second time")
		}
	}
}
