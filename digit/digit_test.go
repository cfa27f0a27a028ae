package digit_test

import (
	"fmt"
	"math"
	"math/rand"
	"slices"
	"strconv"
	"strings"
	"testing"

	"spinet/api"
	"spinet/digit"
)

// numbers: the ends, what stands beside each power of 2 and of 10, and others of all lengths.
func numbers() []uint64 {
	out := []uint64{0, math.MaxUint64}
	for i := range 64 {
		p := uint64(1) << i
		out = append(out, p-1, p, p+1)
	}
	for p := uint64(1); ; p *= 10 {
		out = append(out, p-1, p, p+1)
		if p > math.MaxUint64/10 {
			break
		}
	}
	r := rand.New(rand.NewSource(1))
	for i := range 2000 {
		out = append(out, r.Uint64()>>(i%64))
	}
	return out
}

// reader: one of both calls that read a number.
type reader func(string) (uint64, api.Errno)

// reads: does the call answer this?
func reads(t *testing.T, name string, read reader, s string, n uint64, e api.Errno) {
	t.Helper()
	if gotN, gotE := read(s); gotN != n || gotE != e {
		t.Errorf("%s(%q): %d, %d, not %d, %d", name, s, gotN, gotE, n, e)
	}
}

func TestP2_1Hex(t *testing.T) {
	for _, n := range numbers() {
		for width := 1; width <= 16; width++ {
			if got, want := digit.Hex(n, width), fmt.Sprintf("%0*X", width, n); got != want {
				t.Fatalf("Hex(%d, %d): %s, not %s", n, width, got, want)
			}
		}
	}
	cases := []struct {
		n     uint64
		width int
		want  string
	}{
		{171, 4, "00AB"},
		{0, 1, "0"},
		{0, 0, "0"},
		{0, -1, "0"},
		{171, 0, "AB"},
		{171, math.MinInt, "AB"},
		{171, 16, "00000000000000AB"},
		{171, 17, "00000000000000AB"},
		{0, math.MaxInt, "0000000000000000"},
		{0x123456789ABCDEF0, 2, "123456789ABCDEF0"},
		{math.MaxUint64, 99, "FFFFFFFFFFFFFFFF"},
	}
	for _, c := range cases {
		if got := digit.Hex(c.n, c.width); got != c.want {
			t.Errorf("Hex(%d, %d): %s", c.n, c.width, got)
		}
	}
}

func TestP2_1Read(t *testing.T) {
	for _, n := range numbers() {
		s := digit.Hex(n, 1)
		reads(t, "Read", digit.Read, s, n, api.OK)
		reads(t, "Read", digit.Read, strings.ToLower(s), n, api.OK)
		reads(t, "Read", digit.Read, digit.Hex(n, 16), n, api.OK)
	}
	reads(t, "Read", digit.Read, "aBcDeF", 0xABCDEF, api.OK)
	reads(t, "Read", digit.Read, "0000", 0, api.OK)
	reads(t, "Read", digit.Read, "0000000000000001", 1, api.OK)
}

func TestP2_1ReadErrors(t *testing.T) {
	for _, s := range []string{"", "G", "g", "/", ":", "@", "`", " ", "1 ", " 1", "+1", "-1", "0x1", "1_0", "12G", "\x00", "é", "1\xff"} {
		reads(t, "Read", digit.Read, s, 0, api.ErrForm)
	}
	reads(t, "Read", digit.Read, "10000000000000000", 0, api.ErrSize)
	reads(t, "Read", digit.Read, "00000000000000001", 0, api.ErrSize)
	reads(t, "Read", digit.Read, strings.Repeat("F", 1000), 0, api.ErrSize)
	// Both apply: the form is named first.
	reads(t, "Read", digit.Read, "1000000000000000G", 0, api.ErrForm)
	reads(t, "Read", digit.Read, strings.Repeat("0", 1000)+"-", 0, api.ErrForm)
}

// Each single byte is a digit, or it is none.
func TestP2OneSign(t *testing.T) {
	const hex, upper = "0123456789abcdef", "0123456789ABCDEF"
	for n := range 256 {
		s := string([]byte{byte(n)})
		at := max(strings.Index(hex, s), strings.Index(upper, s))
		if at >= 0 {
			reads(t, "Read", digit.Read, s, uint64(at), api.OK)
		} else {
			reads(t, "Read", digit.Read, s, 0, api.ErrForm)
		}
		if at >= 0 && at <= 9 {
			reads(t, "ReadDec", digit.ReadDec, s, uint64(at), api.OK)
		} else {
			reads(t, "ReadDec", digit.ReadDec, s, 0, api.ErrForm)
		}
		for _, pair := range []string{s + "0", "0" + s} {
			b, e := digit.Unpair(pair)
			if (e == api.OK) != (at >= 0) || e == api.OK && (len(b) != 1 || max(b[0]&15, b[0]>>4) != byte(at)) {
				t.Errorf("Unpair(%q): %v, %d", pair, b, e)
			}
		}
	}
}

func TestP2_2Dec(t *testing.T) {
	for _, n := range numbers() {
		if got, want := digit.Dec(n), strconv.FormatUint(n, 10); got != want {
			t.Fatalf("Dec(%d): %s", n, got)
		}
	}
	for n, want := range map[uint64]string{0: "0", 7: "7", 305: "305", 1000: "1000", math.MaxUint64: "18446744073709551615"} {
		if digit.Dec(n) != want {
			t.Errorf("Dec(%d): %s", n, digit.Dec(n))
		}
	}
}

func TestP2_2ReadDec(t *testing.T) {
	for _, n := range numbers() {
		s := strconv.FormatUint(n, 10)
		reads(t, "ReadDec", digit.ReadDec, s, n, api.OK)
		reads(t, "ReadDec", digit.ReadDec, strings.Repeat("0", 20-len(s))+s, n, api.OK)
	}
	reads(t, "ReadDec", digit.ReadDec, "000", 0, api.OK)
	reads(t, "ReadDec", digit.ReadDec, "0305", 305, api.OK)
	reads(t, "ReadDec", digit.ReadDec, "18446744073709551615", math.MaxUint64, api.OK)
}

func TestP2_2ReadDecErrors(t *testing.T) {
	for _, s := range []string{"", "x", "A", "a", "1F", " 1", "1 ", "+1", "-1", "1.0", "1_0", "/", ":", "\x00", "é"} {
		reads(t, "ReadDec", digit.ReadDec, s, 0, api.ErrForm)
	}
	reads(t, "ReadDec", digit.ReadDec, "100000000000000000000", 0, api.ErrSize)
	reads(t, "ReadDec", digit.ReadDec, "000000000000000000001", 0, api.ErrSize)
	reads(t, "ReadDec", digit.ReadDec, strings.Repeat("9", 1000), 0, api.ErrSize)
	for _, s := range []string{"18446744073709551616", "18446744073709551620", "18446744073709551700", "20000000000000000000", "36893488147419103233", "99999999999999999999"} {
		reads(t, "ReadDec", digit.ReadDec, s, 0, api.ErrOver)
	}
	// Several apply: the form is named first, then the size.
	reads(t, "ReadDec", digit.ReadDec, "18446744073709551616x", 0, api.ErrForm)
	reads(t, "ReadDec", digit.ReadDec, "9999999999999999999x", 0, api.ErrForm)
	reads(t, "ReadDec", digit.ReadDec, "184467440737095516160", 0, api.ErrSize)
}

func TestP2_3Pairs(t *testing.T) {
	if digit.Pairs() != "" || digit.Pairs([]byte{}...) != "" {
		t.Error("no bytes have no digits")
	}
	if got := digit.Pairs(1, 171); got != "01AB" {
		t.Errorf("Pairs(1, 171): %s", got)
	}
	if got := digit.Pairs(0, 16, 255, 240); got != "0010FFF0" {
		t.Errorf("Pairs(0, 16, 255, 240): %s", got)
	}
	for n := range 256 {
		if got, want := digit.Pairs(byte(n)), digit.Hex(uint64(n), 2); got != want {
			t.Errorf("Pairs(%d): %s, not %s", n, got, want)
		}
	}
}

func TestP2_3Unpair(t *testing.T) {
	cases := []struct {
		s    string
		want []byte
		e    api.Errno
	}{
		{"", nil, api.OK},
		{"00", []byte{0}, api.OK},
		{"01AB", []byte{1, 171}, api.OK},
		{"01ab", []byte{1, 171}, api.OK},
		{"aBFfF0", []byte{171, 255, 240}, api.OK},
		{"0", nil, api.ErrForm},
		{"012", nil, api.ErrForm},
		{"0G", nil, api.ErrForm},
		{"G0", nil, api.ErrForm},
		{"00 0", nil, api.ErrForm},
		{"00 11", nil, api.ErrForm},
		{" 0011", nil, api.ErrForm},
		{"+1", nil, api.ErrForm},
		{"0x", nil, api.ErrForm},
		{"é", nil, api.ErrForm},
		{"0011-1", nil, api.ErrForm},
	}
	for _, c := range cases {
		if got, e := digit.Unpair(c.s); !slices.Equal(got, c.want) || e != c.e {
			t.Errorf("Unpair(%q): %v, %d", c.s, got, e)
		}
	}
	r := rand.New(rand.NewSource(2))
	for n := range 300 {
		b := make([]byte, n)
		r.Read(b)
		for _, s := range []string{digit.Pairs(b...), strings.ToLower(digit.Pairs(b...))} {
			if got, e := digit.Unpair(s); !slices.Equal(got, b) || e != api.OK {
				t.Fatalf("Unpair(%q): %v, %d", s, got, e)
			}
		}
	}
}

// What is handed in stays, and two answers share no memory (P2 of DOC.md, rule 5).
func TestP2NewMemory(t *testing.T) {
	b := append(make([]byte, 0, 8), 1, 171)
	if digit.Pairs(b...) != "01AB" || digit.Pairs(b...) != "01AB" {
		t.Error("Pairs answers something else the second time")
	}
	if !slices.Equal(b[:8], []byte{1, 171, 0, 0, 0, 0, 0, 0}) {
		t.Errorf("Pairs changed what it was given: %v", b[:8])
	}
	first, _ := digit.Unpair("01AB")
	first[0], first[1] = 9, 9
	if second, e := digit.Unpair("01AB"); !slices.Equal(second, []byte{1, 171}) || e != api.OK {
		t.Errorf("Unpair a second time: %v, %d", second, e)
	}
}
