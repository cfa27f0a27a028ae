package octet_test

import (
	"slices"
	"testing"

	"spinet/octet"
)

// modulo: the remainder from 0 on, also of numbers below 0.
func modulo(n, m int) int { return ((n % m) + m) % m }

func TestP1_1HighLowWord(t *testing.T) {
	for n := range 65536 {
		w := uint16(n)
		hi, lo := octet.High(w), octet.Low(w)
		if int(hi) != n/256 || int(lo) != n%256 {
			t.Fatalf("%d: High %d, Low %d", n, hi, lo)
		}
		if octet.Word(hi, lo) != w {
			t.Fatalf("Word(%d, %d): %d", hi, lo, octet.Word(hi, lo))
		}
	}
	if octet.Word(1, 2) != 258 || octet.Word(2, 1) != 513 || octet.Word(255, 0) != 65280 {
		t.Fatal("Word has its bytes in another order")
	}
}

func TestP1_1Sign(t *testing.T) {
	for n := range 256 {
		want := n
		if n > 127 {
			want = n - 256
		}
		if got := octet.Sign(byte(n)); int(got) != modulo(want, 65536) {
			t.Errorf("Sign(%d): %d", n, got)
		}
	}
	for b, want := range map[byte]uint16{0: 0, 127: 127, 128: 65408, 254: 65534, 255: 65535} {
		if octet.Sign(b) != want {
			t.Errorf("Sign(%d): %d", b, octet.Sign(b))
		}
	}
}

func TestP1_1Sign5(t *testing.T) {
	for n := range 256 {
		want := n % 32
		if want > 15 {
			want -= 32
		}
		if got := octet.Sign5(byte(n)); int(got) != modulo(want, 65536) {
			t.Errorf("Sign5(%d): %d", n, got)
		}
	}
	for b, want := range map[byte]uint16{0: 0, 15: 15, 16: 65520, 31: 65535, 32: 0, 239: 15, 255: 65535} {
		if octet.Sign5(b) != want {
			t.Errorf("Sign5(%d): %d", b, octet.Sign5(b))
		}
	}
}

func TestP1_2Ones(t *testing.T) {
	if octet.Ones() != 0 || octet.Ones([]byte{}...) != 0 {
		t.Error("no bytes have no bits")
	}
	for n := range 256 {
		want := 0
		for m := n; m > 0; m /= 2 {
			want += m % 2
		}
		if got := octet.Ones(byte(n)); got != want {
			t.Errorf("Ones(%d): %d", n, got)
		}
		if got := octet.Ones(byte(n), 255, byte(n)); got != 2*want+8 {
			t.Errorf("Ones(%d, 255, %d): %d", n, n, got)
		}
	}
	// More bits than a byte can count.
	if got := octet.Ones(slices.Repeat([]byte{255}, 1000)...); got != 8000 {
		t.Errorf("Ones of 1000 bytes: %d", got)
	}
}

func TestP1_2Sum(t *testing.T) {
	cases := []struct {
		b    []byte
		want byte
	}{
		{nil, 0},
		{[]byte{7}, 7},
		{[]byte{1, 2, 3}, 6},
		{[]byte{255, 1}, 0},
		{[]byte{200, 100}, 44},
		{slices.Repeat([]byte{255}, 257), 255},
	}
	for _, c := range cases {
		if got := octet.Sum(c.b...); got != c.want {
			t.Errorf("Sum(%v): %d", c.b, got)
		}
	}
}

func TestP1_2Words(t *testing.T) {
	cases := []struct {
		b    []byte
		want []uint16
	}{
		{nil, nil},
		{[]byte{}, nil},
		{[]byte{18}, []uint16{0x1200}},
		{[]byte{1, 2}, []uint16{0x0102}},
		{[]byte{1, 2, 255}, []uint16{0x0102, 0xFF00}},
		{[]byte{0, 255, 128, 1}, []uint16{0x00FF, 0x8001}},
	}
	for _, c := range cases {
		if got := octet.Words(c.b...); !slices.Equal(got, c.want) {
			t.Errorf("Words(%v): %v", c.b, got)
		}
	}
}

func TestP1_2Bytes(t *testing.T) {
	cases := []struct {
		w    []uint16
		want []byte
	}{
		{nil, nil},
		{[]uint16{}, nil},
		{[]uint16{0x1234}, []byte{0x12, 0x34}},
		{[]uint16{0x0102, 0xFF00, 0x00FF}, []byte{1, 2, 255, 0, 0, 255}},
	}
	for _, c := range cases {
		if got := octet.Bytes(c.w...); !slices.Equal(got, c.want) {
			t.Errorf("Bytes(%v): %v", c.w, got)
		}
	}
	for n := range 65536 {
		w := []uint16{uint16(n), uint16(65535 - n)}
		if !slices.Equal(octet.Words(octet.Bytes(w...)...), w) {
			t.Fatalf("%v doesn't come back", w)
		}
	}
}

// What is handed in stays, and two answers share no memory (P2 of DOC.md, rule 5).
func TestP2NewMemory(t *testing.T) {
	b := append(make([]byte, 0, 8), 1, 2, 3)
	first := octet.Words(b...)
	first[0], first[1] = 9, 9
	if second := octet.Words(b...); !slices.Equal(second, []uint16{0x0102, 0x0300}) {
		t.Errorf("Words a second time: %v", second)
	}
	if !slices.Equal(b[:8], []byte{1, 2, 3, 0, 0, 0, 0, 0}) {
		t.Errorf("Words changed what it was given: %v", b[:8])
	}
	w := append(make([]uint16, 0, 4), 5, 6)
	out := octet.Bytes(w...)
	out[0], out[1] = 9, 9
	if again := octet.Bytes(w...); !slices.Equal(again, []byte{0, 5, 0, 6}) {
		t.Errorf("Bytes a second time: %v", again)
	}
	if !slices.Equal(w[:4], []uint16{5, 6, 0, 0}) {
		t.Errorf("Bytes changed what it was given: %v", w[:4])
	}
	octet.Ones(b...)
	octet.Sum(b...)
	if !slices.Equal(b[:8], []byte{1, 2, 3, 0, 0, 0, 0, 0}) {
		t.Errorf("Ones or Sum changed what it was given: %v", b[:8])
	}
}
