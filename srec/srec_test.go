package srec_test

import (
	"bytes"
	"encoding/hex"
	"fmt"
	"math/rand"
	"slices"
	"strings"
	"testing"

	"spinet/api"
	"spinet/srec"
)

// known are lines as others wrote them, and what they tell.
var known = []struct {
	text string
	kind int
	at   uint16
	b    string
}{
	{"S9030000FC", 9, 0, ""},
	{"S9031234B6", 9, 0x1234, ""},
	{"S903FFFFFE", 9, 0xFFFF, ""},
	{"S0030000FC", 0, 0, ""},
	{"S1030000FC", 1, 0, ""},
	{"S00F000068656C6C6F202020202000003C", 0, 0, "hello     \x00\x00"},
	{"S111003848656C6C6F20776F726C642E0A0042", 1, 0x38, "Hello world.\n\x00"},
	{"S11F00007C0802A6900100049421FFF07C6C1B787C8C23783C6000003863000026", 1, 0, "\x7C\x08\x02\xA6\x90\x01\x00\x04\x94\x21\xFF\xF0\x7C\x6C\x1B\x78\x7C\x8C\x23\x78\x3C\x60\x00\x00\x38\x63\x00\x00"},
	{"S11F001C4BFFFFE5398000007D83637880010014382100107C0803A64E800020E9", 1, 0x1C, "\x4B\xFF\xFF\xE5\x39\x80\x00\x00\x7D\x83\x63\x78\x80\x01\x00\x14\x38\x21\x00\x10\x7C\x08\x03\xA6\x4E\x80\x00\x20"},
	{"S104FFFFAB52", 1, 0xFFFF, "\xAB"},
	{"S105FFFFABCD84", 1, 0xFFFF, "\xAB\xCD"},
}

// summed: a line of digits whose sum is right, of the bytes ahead of it.
func summed(kind string, b ...byte) string {
	sum := 0
	for _, x := range b {
		sum += int(x)
	}
	return fmt.Sprintf("S%s%X%02X", kind, b, 255-sum%256)
}

// told: as summed, but of an address and the line's own bytes.
func told(kind string, at uint16, b ...byte) string {
	return summed(kind, append([]byte{byte(len(b) + 3), byte(at >> 8), byte(at)}, b...)...)
}

func same(a, b srec.Line) bool { return a.Kind == b.Kind && a.At == b.At && bytes.Equal(a.B, b.B) }

// none: is it the zero line?
func none(l srec.Line) bool { return l.Kind == 0 && l.At == 0 && len(l.B) == 0 }

// anyBytes: so many of them.
func anyBytes(r *rand.Rand, n int) []byte {
	b := make([]byte, n)
	r.Read(b)
	return b
}

func TestP40_1Known(t *testing.T) {
	for _, c := range known {
		l := srec.Line{Kind: c.kind, At: c.at, B: []byte(c.b)}
		if got := l.Text(); got != c.text {
			t.Errorf("Text of %+v: %s, not %s", l, got, c.text)
		}
		got, e := srec.Read(c.text)
		if e != api.OK || !same(got, l) {
			t.Errorf("Read of %s: %+v, %v", c.text, got, e)
		}
	}
	if got := (srec.Line{Kind: 9}).Text(); got != "S9030000FC" {
		t.Errorf("the end at 0: %s", got)
	}
}

func TestP40_1Round(t *testing.T) {
	r := rand.New(rand.NewSource(401))
	for n := range 253 {
		for _, kind := range []int{0, 1} {
			l := srec.Line{Kind: kind, At: uint16(r.Intn(65536)), B: anyBytes(r, n)}
			text := l.Text()
			if want := told(fmt.Sprint(kind), l.At, l.B...); text != want {
				t.Fatalf("Text of %+v: %s, not %s", l, text, want)
			}
			for _, s := range []string{text, "S" + strings.ToLower(text[1:])} {
				if got, e := srec.Read(s); e != api.OK || !same(got, l) {
					t.Fatalf("Read of %s: %+v, %v", s, got, e)
				}
			}
		}
	}
}

func TestP40_1Form(t *testing.T) {
	for _, s := range []string{
		"", "S", "S0", "S1", "S9", "s9030000FC", "9030000FC", " S9030000FC", "S9030000FC ", "S9030000FC\r", "S9030000FC\n",
		"S2030000FC", "S3030000FC", "S5030003F9", "S7030000FC", "S8030000FC", "SA030000FC", "S-030000FC", "SS030000FC",
		"X9030000FC", "S9030000F", "S9030000FC0", "S9030000FG", "S90300 0FC", "S903,000FC", "S9+30000FC", "S90x0000FC",
		"S900", "S901FE", "S9020000", "S9FF", "S90200FD", "S1FF", "S1FF00", "S1FF0000", "S0000000",
		"S10", "S109", "S1030000F", "S1ß30000FC", "S1\xFF\xFE0000FC",
	} {
		if got, e := srec.Read(s); e != api.ErrForm || !none(got) {
			t.Errorf("Read of %q: %+v, %v", s, got, e)
		}
	}
}

func TestP40_1Size(t *testing.T) {
	// Four pairs are enough to ask how many there are.
	for _, s := range []string{"S9020000FC", "S9040000FC", "S9000000FC", "S9FF0000FC", "S1030000FC00", "S10400000000FF", "S1050000AA00", "S013000000"} {
		if got, e := srec.Read(s); e != api.ErrSize || !none(got) {
			t.Errorf("Read of %q: %+v, %v", s, got, e)
		}
	}
	// A number that would be right, if it were cut to a byte.
	long := "S1" + hex.EncodeToString(append([]byte{3, 0, 0}, make([]byte, 257)...))
	if got, e := srec.Read(long); e != api.ErrSize || !none(got) {
		t.Errorf("260 pairs: %+v, %v", got, e)
	}
	right := told("1", 0x1234, 1, 2, 3)
	for _, wrong := range []string{right + "00", right[:len(right)-2], strings.Replace(right, "S106", "S105", 1), strings.Replace(right, "S106", "S107", 1)} {
		if got, e := srec.Read(wrong); e != api.ErrSize || !none(got) {
			t.Errorf("Read of %q: %+v, %v", wrong, got, e)
		}
	}
}

func TestP40_1Sum(t *testing.T) {
	for _, kind := range []string{"0", "1", "9"} {
		for d := 1; d < 256; d++ {
			s := fmt.Sprintf("S%s031234%02X", kind, (0xB6+d)%256)
			if got, e := srec.Read(s); e != api.ErrSum || !none(got) {
				t.Errorf("Read of %q: %+v, %v", s, got, e)
			}
		}
	}
	// The sum is asked ahead of whether the line may be.
	if got, e := srec.Read("S90400000000"); e != api.ErrSum || !none(got) {
		t.Errorf("an end with a byte and a wrong sum: %+v, %v", got, e)
	}
}

func TestP40_1MayNotBe(t *testing.T) {
	r := rand.New(rand.NewSource(402))
	for n := 1; n <= 252; n++ {
		s := told("9", 0x4000, anyBytes(r, n)...)
		if got, e := srec.Read(s); e != api.ErrForm || !none(got) {
			t.Errorf("an end with %d bytes: %+v, %v", n, got, e)
		}
	}
}

func TestP40_1NewMemory(t *testing.T) {
	b := []byte{1, 2, 3}
	srec.Line{Kind: 1, B: b}.Text()
	if !bytes.Equal(b, []byte{1, 2, 3}) {
		t.Error("Text changed the bytes")
	}
	room := append(make([]byte, 0, 9), 1, 2, 3)
	rest := room[:9]
	srec.Line{Kind: 1, B: room}.Text()
	if !bytes.Equal(rest[3:], make([]byte, 6)) {
		t.Error("Text wrote behind the bytes")
	}
}

// pieces: so many pieces of at most so many bytes, each within memory.
func pieces(r *rand.Rand, n, most int) []srec.Piece {
	var out []srec.Piece
	for range n {
		b := anyBytes(r, r.Intn(most+1))
		out = append(out, srec.Piece{At: uint16(r.Intn(65537 - max(1, len(b)))), B: b})
	}
	return out
}

func TestP40_2PutKnown(t *testing.T) {
	b := make([]byte, 70)
	for i := range b {
		b[i] = byte(i)
	}
	two := func(n int) []string {
		return []string{told("1", 0x1000, b[:n]...)}
	}
	for _, c := range []struct {
		n    int
		want []string
	}{
		{0, nil},
		{1, two(1)},
		{31, two(31)},
		{32, two(32)},
		{33, append(two(32), told("1", 0x1020, b[32]))},
		{64, append(two(32), told("1", 0x1020, b[32:64]...))},
		{65, append(two(32), told("1", 0x1020, b[32:64]...), told("1", 0x1040, b[64]))},
		{70, append(two(32), told("1", 0x1020, b[32:64]...), told("1", 0x1040, b[64:]...))},
	} {
		want := strings.Join(append(c.want, "S9031234B6"), "\n") + "\n"
		if got := srec.Put(0x1234, srec.Piece{At: 0x1000, B: b[:c.n]}); got != want {
			t.Errorf("Put of %d bytes:\n%s, not\n%s", c.n, got, want)
		}
	}
	if got := srec.Put(0); got != "S9030000FC\n" {
		t.Errorf("Put of nothing: %q", got)
	}
	if got := srec.Put(7, srec.Piece{At: 65535, B: []byte{5}}, srec.Piece{At: 3}, srec.Piece{At: 0, B: []byte{6}}); got != told("1", 65535, 5)+"\n"+told("1", 0, 6)+"\n"+told("9", 7)+"\n" {
		t.Errorf("three pieces: %q", got)
	}
	if srec.Most != 32 {
		t.Error("Most")
	}
}

// joined: the pieces of pieces, 32 bytes each, as Get has them.
func joined(l []srec.Piece) []srec.Piece {
	var out []srec.Piece
	for _, p := range l {
		for i := 0; i < len(p.B); i += 32 {
			out = append(out, srec.Piece{At: p.At + uint16(i), B: p.B[i:min(i+32, len(p.B))]})
		}
	}
	return out
}

func samePieces(a, b []srec.Piece) bool {
	return slices.EqualFunc(a, b, func(x, y srec.Piece) bool { return x.At == y.At && bytes.Equal(x.B, y.B) })
}

func TestP40_2Round(t *testing.T) {
	r := rand.New(rand.NewSource(403))
	for range 200 {
		l := pieces(r, r.Intn(6), 200)
		start := uint16(r.Intn(65536))
		text := srec.Put(start, l...)
		got, at, n, e := srec.Get(text)
		if e != api.OK || n != 0 || at != start || !samePieces(got, joined(l)) {
			t.Fatalf("%+v: %+v, %d, %d, %v", l, got, at, n, e)
		}
		if !bytes.Equal(srec.Load(got...), srec.Load(l...)) {
			t.Fatal("another memory")
		}
	}
	all := srec.Piece{B: anyBytes(r, 65536)}
	got, _, _, e := srec.Get(srec.Put(0, all))
	if e != api.OK || len(got) != 2048 || !bytes.Equal(srec.Load(got...), all.B) {
		t.Error("all of memory")
	}
}

func TestP40_2Get(t *testing.T) {
	one, two, end := told("1", 0x10, 1, 2), told("1", 0xFFFE, 3, 4), told("9", 0x1234)
	first, second := srec.Piece{At: 0x10, B: []byte{1, 2}}, srec.Piece{At: 0xFFFE, B: []byte{3, 4}}
	for _, c := range []struct {
		text string
		want []srec.Piece
	}{
		{end, nil},
		{end + "\n", nil},
		{"\n\n" + end, nil},
		{one + "\n" + two + "\n" + end + "\n", []srec.Piece{first, second}},
		{two + "\n\n" + one + "\n" + end, []srec.Piece{second, first}},
		{one + "\n" + one + "\n" + end, []srec.Piece{first, first}},
		// What is no piece, or stands behind the end.
		{told("0", 0xFFFF, 1, 2, 3) + "\n" + one + "\n" + end, []srec.Piece{first}},
		{told("1", 0xFFFF) + "\n" + one + "\n" + end, []srec.Piece{first}},
		{one + "\n" + end + "\nS1 and anything", []srec.Piece{first}},
		{one + "\n" + end + "\n" + two + "\n" + told("9", 5), []srec.Piece{first}},
		{"S" + strings.ToLower(two[1:]) + "\n" + end, []srec.Piece{second}},
	} {
		got, at, n, e := srec.Get(c.text)
		if e != api.OK || n != 0 || at != 0x1234 || !samePieces(got, c.want) {
			t.Errorf("Get of %q: %+v, %X, %d, %v", c.text, got, at, n, e)
		}
	}
}

func TestP40_2GetWrong(t *testing.T) {
	one, end := told("1", 0x10, 1, 2), told("9", 0x1234)
	for _, c := range []struct {
		text string
		line int
		want api.Errno
	}{
		{"", 1, api.ErrShort},
		{"\n", 2, api.ErrShort},
		{"\n\n\n", 4, api.ErrShort},
		{one, 1, api.ErrShort},
		{one + "\n", 2, api.ErrShort},
		{told("0", 0), 1, api.ErrShort},
		{one + "\n\n" + one, 3, api.ErrShort},
		{"x\n" + end, 1, api.ErrForm},
		{" \n" + end, 1, api.ErrForm},
		{one + "\r\n" + end, 1, api.ErrForm},
		{one + "\n\nS5030003F9\n" + end, 3, api.ErrForm},
		{one + "\n" + told("9", 0, 1), 2, api.ErrForm},
		{"\n" + one[:len(one)-2] + "\n" + end, 2, api.ErrSize},
		{one + "\n" + one + "\nS9030000FD\n" + end, 3, api.ErrSum},
		{told("1", 0xFFFF, 1) + "\n" + told("1", 0xFFFF, 1, 2) + "\n" + end, 2, api.ErrRange},
		{told("1", 0xFF05, make([]byte, 252)...) + "\n" + end, 1, api.ErrRange},
		// The first wrong line counts, whatever is wrong with others.
		{told("1", 0xFFFF, 1, 2) + "\nx\n", 1, api.ErrRange},
		{"x\n" + told("1", 0xFFFF, 1, 2), 1, api.ErrForm},
		{one + "\nS9030000FD", 2, api.ErrSum},
	} {
		got, at, n, e := srec.Get(c.text)
		if e != c.want || n != c.line || at != 0 || len(got) > 0 {
			t.Errorf("Get of %q: %+v, %d, %d, %v", c.text, got, at, n, e)
		}
	}
	if _, _, _, e := srec.Get(told("1", 0xFF04, make([]byte, 252)...) + "\n" + end); e != api.OK {
		t.Error("252 bytes up to the last address")
	}
}

func TestP40_2NewMemory(t *testing.T) {
	b := []byte{1, 2, 3}
	l := []srec.Piece{{At: 5, B: b}}
	srec.Put(0, l...)
	if !bytes.Equal(b, []byte{1, 2, 3}) || l[0].At != 5 {
		t.Error("Put changed a piece")
	}
	text := srec.Put(0, l[0], l[0])
	got, _, _, _ := srec.Get(text)
	got[0].B[0] = 9
	if got[1].B[0] != 1 {
		t.Error("two pieces share their bytes")
	}
}

func TestP40_3Load(t *testing.T) {
	r := rand.New(rand.NewSource(404))
	for range 50 {
		l := pieces(r, r.Intn(8), 30000)
		want := make([]byte, 65536)
		for _, p := range l {
			for i, x := range p.B {
				want[int(p.At)+i] = x
			}
		}
		got := srec.Load(l...)
		if !bytes.Equal(got, want) {
			t.Fatalf("Load of %d pieces", len(l))
		}
		clear(got)
		if !bytes.Equal(srec.Load(l...), want) {
			t.Fatal("memory isn't new")
		}
	}
	if !bytes.Equal(srec.Load(), make([]byte, 65536)) {
		t.Error("Load of nothing")
	}
	got := srec.Load(srec.Piece{At: 65534, B: []byte{1, 2}}, srec.Piece{At: 65535, B: []byte{0}})
	if len(got) != 65536 || got[65534] != 1 || got[65535] != 0 {
		t.Error("a later piece lies over an earlier one, with zeros too")
	}
}

func TestP1Any(t *testing.T) {
	r := rand.New(rand.NewSource(405))
	// What no promise is made of must end, too.
	long := srec.Piece{At: 65530, B: make([]byte, 70000)}
	srec.Put(0, long)
	if len(srec.Load(long)) != 65536 {
		t.Error("memory has another length")
	}
	for _, kind := range []int{-1, 2, 8, 10, 1 << 62, -1 << 63} {
		_ = srec.Line{Kind: kind, B: make([]byte, 300)}.Text()
	}
	_ = srec.Line{Kind: 1, B: make([]byte, 253)}.Text()
	signs := "S019\n0123456789ABCDEFabcdef \r\xFF"
	for range 20000 {
		b := make([]byte, r.Intn(20))
		for i := range b {
			b[i] = signs[r.Intn(len(signs))]
		}
		s := string(b)
		if l, e := srec.Read(s); e != api.OK && !none(l) || e == api.OK && "S"+strings.ToUpper(s[1:]) != l.Text() {
			t.Fatalf("Read of %q: %+v, %v", s, l, e)
		}
		if l, at, n, e := srec.Get(s); e != api.OK && (len(l) > 0 || at != 0 || n < 1 || n > 1+strings.Count(s, "\n")) || e == api.OK && n != 0 {
			t.Fatalf("Get of %q: %+v, %d, %d, %v", s, l, at, n, e)
		}
	}
}

func TestP2Again(t *testing.T) {
	text := srec.Put(9, srec.Piece{At: 5, B: []byte{1, 2}})
	a, b, c, d := srec.Get(text)
	srec.Get("wrong")
	x, y, z, w := srec.Get(text)
	if !samePieces(a, x) || b != y || c != z || d != w {
		t.Error("another answer")
	}
}
