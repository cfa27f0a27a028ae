package pack_test

import (
	"bytes"
	"math"
	"math/rand"
	"slices"
	"testing"

	"spinet/api"
	"spinet/pack"
)

// three: do three bytes that are alike stand at a place?
func three(b []byte, at int) bool {
	return at+2 < len(b) && b[at] == b[at+1] && b[at] == b[at+2]
}

// packed: the pieces of bytes, by the words of the chapter.
func packed(b []byte) []byte {
	var out []byte
	for at := 0; at < len(b); {
		end := at
		if three(b, at) {
			for end < len(b) && end < at+128 && b[end] == b[at] {
				end++
			}
			out = append(out, byte(256-(end-at)), b[at])
		} else {
			for end < len(b) && end < at+127 && !three(b, end) {
				end++
			}
			out = append(append(out, byte(end-at)), b[at:end]...)
		}
		at = end
	}
	return out
}

// unpacked: the bytes of pieces, and why there are none, by the words of the chapter.
func unpacked(b []byte, most int) ([]byte, api.Errno) {
	var out []byte
	for at := 0; at < len(b); {
		head := int(b[at])
		at++
		behind, many := head, head
		if head >= 128 {
			behind, many = 1, 256-head
		}
		if head == 0 || at+behind > len(b) {
			return nil, api.ErrForm
		}
		for i := range many {
			if len(out) >= most {
				return nil, api.ErrSize
			}
			if head >= 128 {
				i = 0
			}
			out = append(out, b[at+i])
		}
		at += behind
	}
	if !bytes.Equal(packed(out), b) {
		return nil, api.ErrForm
	}
	return out, api.OK
}

// run: so many bytes that are alike.
func run(n int, b byte) []byte { return bytes.Repeat([]byte{b}, n) }

// count: so many bytes, of which no two side by side are alike.
func count(n int) []byte {
	out := make([]byte, n)
	for i := range out {
		out[i] = byte(i%250) + 1
	}
	return out
}

// pieces: runs of bytes that are alike, of any lengths.
func pieces(r *rand.Rand) []byte {
	lengths := []int{1, 1, 1, 2, 2, 3, 4, 5, 126, 127, 128, 129, 130, 131, 255, 256, 257, 258}
	var out []byte
	for range r.Intn(12) {
		if r.Intn(3) == 0 {
			out = append(out, count(lengths[r.Intn(len(lengths))])...)
		} else {
			out = append(out, run(lengths[r.Intn(len(lengths))], byte(r.Intn(3)))...)
		}
	}
	return out
}

// each: all rows of bytes of a few kinds, so many of them at most.
func each(kinds []byte, most int, f func([]byte)) {
	rows := [][]byte{nil}
	for range most + 1 {
		var more [][]byte
		for _, b := range rows {
			f(b)
			for _, x := range kinds {
				more = append(more, append(slices.Clone(b), x))
			}
		}
		rows = more
	}
}

// goesRound: are bytes packed so, and is what is packed read again?
func goesRound(t *testing.T, b, want []byte) {
	t.Helper()
	kept := slices.Clone(b)
	got := pack.Pack(b)
	if !bytes.Equal(got, want) {
		t.Fatalf("Pack(% X): % X, not % X", b, got, want)
	}
	for _, most := range []int{len(b), len(b) + 1, math.MaxInt} {
		back, e := pack.Unpack(got, most)
		if e != api.OK || !bytes.Equal(back, b) {
			t.Fatalf("Unpack(% X, %d): % X, %v", got, most, back, e)
		}
		clear(back)
	}
	if len(b) > 0 {
		if back, e := pack.Unpack(got, len(b)-1); len(back) != 0 || e != api.ErrSize {
			t.Fatalf("Unpack(% X, %d): % X, %v", got, len(b)-1, back, e)
		}
	}
	if !bytes.Equal(got, want) {
		t.Fatal("Unpack keeps, or changes, what it is given")
	}
	clear(got)
	if !bytes.Equal(b, kept) {
		t.Fatal("Pack keeps, or changes, what it is given")
	}
}

func TestP38_1Constants(t *testing.T) {
	if pack.Run != 3 || pack.Most != 128 {
		t.Error(pack.Run, pack.Most)
	}
}

// Written out by hand.
func TestP38_1Known(t *testing.T) {
	for _, c := range []struct{ b, want []byte }{
		{nil, nil},
		{[]byte{}, nil},
		{[]byte{7, 7, 7, 1}, []byte{253, 7, 1, 1}},
		{[]byte{5}, []byte{1, 5}},
		{[]byte{5, 5}, []byte{2, 5, 5}},
		{[]byte{5, 5, 5}, []byte{253, 5}},
		{[]byte{5, 5, 5, 5}, []byte{252, 5}},
		{[]byte{0, 0, 0}, []byte{253, 0}},
		{[]byte{1, 2, 2}, []byte{3, 1, 2, 2}},
		{[]byte{1, 2, 2, 2}, []byte{1, 1, 253, 2}},
		{[]byte{1, 1, 2, 2, 2}, []byte{2, 1, 1, 253, 2}},
		{[]byte{1, 1, 2, 2, 1, 1}, []byte{6, 1, 1, 2, 2, 1, 1}},
		{[]byte{2, 2, 2, 1, 1, 1}, []byte{253, 2, 253, 1}},
		{[]byte{2, 2, 2, 1, 1, 3, 3, 3, 3}, []byte{253, 2, 2, 1, 1, 252, 3}},
		{run(127, 9), []byte{129, 9}},
		{run(128, 9), []byte{128, 9}},
		// What is left of a run counts by itself.
		{run(129, 9), []byte{128, 9, 1, 9}},
		{run(130, 9), []byte{128, 9, 2, 9, 9}},
		{run(131, 9), []byte{128, 9, 253, 9}},
		{run(256, 9), []byte{128, 9, 128, 9}},
		{append(run(130, 9), 8, 8, 8), []byte{128, 9, 2, 9, 9, 253, 8}},
		{append(run(129, 9), 8), []byte{128, 9, 2, 9, 8}},
		{count(126), append([]byte{126}, count(126)...)},
		{count(127), append([]byte{127}, count(127)...)},
		{count(128), append(append([]byte{127}, count(127)...), 1, 128)},
		{count(129), append(append([]byte{127}, count(127)...), 2, 128, 129)},
		// A run that begins just at the end of a full piece, or ahead of it, or in it.
		{append(count(127), 3, 3, 3), append(append([]byte{127}, count(127)...), 253, 3)},
		{append(count(126), 3, 3, 3), append(append([]byte{126}, count(126)...), 253, 3)},
		{append(count(126), 3, 3), append(append(append([]byte{127}, count(126)...), 3), 1, 3)},
		{append(count(128), 3, 3, 3), append(append([]byte{127}, count(127)...), 1, 128, 253, 3)},
	} {
		goesRound(t, c.b, c.want)
	}
}

func TestP38_1All(t *testing.T) {
	each([]byte{0, 1}, 12, func(b []byte) { goesRound(t, b, packed(b)) })
	each([]byte{0, 7, 255}, 7, func(b []byte) { goesRound(t, b, packed(b)) })
	r := rand.New(rand.NewSource(1))
	for range 5000 {
		b := pieces(r)
		goesRound(t, b, packed(b))
	}
	for range 200 {
		b := make([]byte, r.Intn(2000))
		r.Read(b)
		goesRound(t, b, packed(b))
	}
	goesRound(t, run(65536, 0), packed(run(65536, 0)))
}

var limits = []int{math.MinInt, math.MinInt + 1, -129, -1, 0, 1, 2, 3, 4, 5, 126, 127, 128, 129, 130, 255, 256, math.MaxInt - 1, math.MaxInt}

// asked: does Unpack answer what the chapter says?
func asked(t *testing.T, b []byte, most int) {
	t.Helper()
	want, e := unpacked(b, most)
	got, f := pack.Unpack(b, most)
	if f != e || !bytes.Equal(got, want) {
		t.Fatalf("Unpack(% X, %d): % X, %v, not % X, %v", b, most, got, f, want, e)
	}
}

func TestP38_2All(t *testing.T) {
	each([]byte{0, 1, 2, 3, 127, 128, 129, 253, 254, 255}, 4, func(b []byte) {
		for _, most := range limits {
			asked(t, b, most)
		}
	})
	each([]byte{0, 1, 2, 253}, 7, func(b []byte) {
		for _, most := range []int{0, 2, 3, 5, 6, math.MaxInt} {
			asked(t, b, most)
		}
	})
}

// What is packed, but for a byte, or without its end.
func TestP38_2Nearly(t *testing.T) {
	r := rand.New(rand.NewSource(2))
	for range 3000 {
		whole := pieces(r)
		b := packed(whole)
		if len(b) == 0 {
			continue
		}
		for range 4 {
			c := slices.Clone(b)
			c[r.Intn(len(c))] = byte(r.Intn(256))
			asked(t, c, len(whole)+r.Intn(5)-2)
			asked(t, b[:r.Intn(len(b))], len(whole)+r.Intn(5)-2)
			asked(t, append(c, byte(r.Intn(4))), math.MaxInt)
		}
	}
}

// Written out by hand: what is wrong, and what of several is told.
func TestP38_2Wrong(t *testing.T) {
	for _, c := range []struct {
		b    []byte
		most int
		want api.Errno
	}{
		{[]byte{0}, 9, api.ErrForm},
		{[]byte{0, 1}, 0, api.ErrForm},
		{[]byte{1}, 9, api.ErrForm},
		{[]byte{1}, 0, api.ErrForm},
		{[]byte{2, 5}, 9, api.ErrForm},
		{[]byte{127}, 0, api.ErrForm},
		{[]byte{128}, 0, api.ErrForm},
		{[]byte{255}, 9, api.ErrForm},
		{[]byte{253}, 9, api.ErrForm},
		// Two alike, or one, are no piece that Pack makes, but count as many.
		{[]byte{255, 7}, 0, api.ErrSize},
		{[]byte{255, 7}, 1, api.ErrForm},
		{[]byte{254, 7}, 1, api.ErrSize},
		{[]byte{254, 7}, 2, api.ErrForm},
		{[]byte{128, 7}, 127, api.ErrSize},
		{[]byte{128, 7}, 128, api.OK},
		{[]byte{1, 7}, 0, api.ErrSize},
		{[]byte{1, 7}, -1, api.ErrSize},
		{[]byte{1, 7}, 1, api.OK},
		// The first piece that is wrong tells.
		{[]byte{253, 7, 0}, 2, api.ErrSize},
		{[]byte{253, 7, 0}, 3, api.ErrForm},
		{[]byte{253, 7, 1}, 2, api.ErrSize},
		{[]byte{253, 7, 1}, 3, api.ErrForm},
		{[]byte{0, 253, 7}, 2, api.ErrForm},
		{[]byte{1, 7, 253, 7}, 3, api.ErrSize},
		// As great as may be, and cut in another way than Pack cuts.
		{[]byte{1, 7, 253, 7}, 4, api.ErrForm},
		{[]byte{1, 7, 1, 8}, 2, api.ErrForm},
		{[]byte{1, 7, 1, 8}, 1, api.ErrSize},
		{[]byte{3, 7, 7, 7}, 3, api.ErrForm},
		{[]byte{3, 7, 7, 7}, 2, api.ErrSize},
		{[]byte{253, 7, 253, 7}, 6, api.ErrForm},
		{[]byte{129, 7, 1, 7}, 128, api.ErrForm},
		{[]byte{128, 7, 1, 7}, 129, api.OK},
		{nil, 0, api.OK},
		{nil, -1, api.OK},
		{[]byte{}, math.MinInt, api.OK},
	} {
		got, e := pack.Unpack(c.b, c.most)
		if e != c.want || e != api.OK && len(got) != 0 {
			t.Errorf("Unpack(% X, %d): % X, %v, not %v", c.b, c.most, got, e, c.want)
		}
	}
}

// The same call answers the same again (P2 of DOC.md).
func TestP2Again(t *testing.T) {
	b := []byte{7, 7, 7, 1}
	for range 3 {
		got := pack.Pack(b)
		if !bytes.Equal(got, []byte{253, 7, 1, 1}) {
			t.Errorf("% X", got)
		}
		if _, e := pack.Unpack(got, 3); e != api.ErrSize {
			t.Error(e)
		}
		if back, e := pack.Unpack(got, 4); e != api.OK || !bytes.Equal(back, b) {
			t.Errorf("% X, %v", back, e)
		}
	}
}
