package record_test

import (
	"math/rand"
	"slices"
	"strings"
	"testing"

	"spinet/api"
	"spinet/record"
)

// made: a record whose levels are the bits of a number: 1 Read, 2 BA, 4 BS, 8 LIC, 16 AVMA, 32 BUSY, 64 Mine.
func made(addr uint16, data byte, sum int) api.Rec {
	on := func(bit int) bool { return sum/bit%2 == 1 }
	return api.Rec{
		Addr: addr, Data: data,
		Read: on(1), BA: on(2), BS: on(4), LIC: on(8), AVMA: on(16), BUSY: on(32), Mine: on(64),
	}
}

// edges are addresses and bytes at the ends.
var (
	addresses = []uint16{0, 1, 9, 10, 15, 16, 255, 256, 4095, 4096, 0x1234, 0xABCD, 32767, 32768, 65534, 65535}
	numbers   = []byte{0, 1, 9, 10, 15, 16, 0x5A, 127, 128, 0xA5, 254, 255}
)

// all calls with records of all levels, and addresses and bytes at the ends.
func all(call func(addr uint16, data byte, sum int)) {
	for _, addr := range addresses {
		for _, data := range numbers {
			for sum := range 128 {
				call(addr, data, sum)
			}
		}
	}
}

func TestP26_1Size(t *testing.T) {
	if record.Size != 4 {
		t.Errorf("Size is %d", record.Size)
	}
}

func TestP26_1PutGet(t *testing.T) {
	var recs []api.Rec
	var bytes []byte
	all(func(addr uint16, data byte, sum int) {
		r := made(addr, data, sum)
		b := []byte{byte(addr / 256), byte(addr % 256), data, byte(sum)}
		if got := record.Put(r); !slices.Equal(got, b) {
			t.Fatalf("Put(%+v): % X, not % X", r, got, b)
		}
		if got, e := record.Get(b); !slices.Equal(got, []api.Rec{r}) || e != api.OK {
			t.Fatalf("Get(% X): %+v, %d", b, got, e)
		}
		recs = append(recs, r)
		bytes = append(bytes, b...)
	})
	if got := record.Put(recs...); !slices.Equal(got, bytes) {
		t.Errorf("Put of all: %d bytes", len(got))
	}
	if got, e := record.Get(bytes); !slices.Equal(got, recs) || e != api.OK {
		t.Errorf("Get of all: %d records, %d", len(got), e)
	}
}

func TestP26_1Some(t *testing.T) {
	l := []api.Rec{
		{Addr: 0xFFFE, Data: 0x12, Read: true, BS: true, AVMA: true, BUSY: true, Mine: true},
		{Addr: 0x0100, Data: 0x05},
		{Addr: 0xFFFF, Data: 0xFF, BA: true, LIC: true},
	}
	b := []byte{0xFF, 0xFE, 0x12, 0x75, 0x01, 0x00, 0x05, 0x00, 0xFF, 0xFF, 0xFF, 0x0A}
	if got := record.Put(l...); !slices.Equal(got, b) {
		t.Errorf("Put: % X", got)
	}
	if got, e := record.Get(b); !slices.Equal(got, l) || e != api.OK {
		t.Errorf("Get: %+v, %d", got, e)
	}
	if got := record.Put(); len(got) != 0 {
		t.Errorf("Put of none: % X", got)
	}
	for _, none := range [][]byte{nil, {}} {
		if got, e := record.Get(none); len(got) != 0 || e != api.OK {
			t.Errorf("Get of none: %+v, %d", got, e)
		}
	}
}

func TestP26_1GetErrors(t *testing.T) {
	for n := range 70 {
		for _, last := range []byte{0, 127, 128, 129, 200, 255} {
			b := make([]byte, n)
			want := api.OK
			if n > 3 {
				b[3] = last
				if last > 127 {
					want = api.ErrForm
				}
			}
			// Where both are wrong, it is how many they are.
			if n%4 != 0 {
				want = api.ErrSize
			}
			got, e := record.Get(b)
			if e != want || e != api.OK && len(got) != 0 || e == api.OK && len(got) != n/4 {
				t.Errorf("Get of %d bytes, %d: %+v, %d, not %d", n, last, got, e, want)
			}
		}
	}
	// Each fourth byte counts, and these alone.
	for at := range 40 {
		b := make([]byte, 40)
		b[at] = 128
		got, e := record.Get(b)
		if wrong := at%4 == 3; wrong != (e == api.ErrForm) || wrong != (e != api.OK) || wrong != (len(got) == 0) {
			t.Errorf("Get with 128 at %d: %d records, %d", at, len(got), e)
		}
	}
	for sum := range 256 {
		if _, e := record.Get([]byte{1, 2, 3, byte(sum)}); (e == api.OK) != (sum < 128) {
			t.Errorf("Get of the sum %d: %d", sum, e)
		}
	}
}

// text: a record's text, by the document.
func text(addr uint16, data byte, sum int) string {
	const digits = "0123456789ABCDEF"
	hex := func(n, width int) string {
		s := ""
		for range width {
			s = string(digits[n%16]) + s
			n /= 16
		}
		return s
	}
	sign := func(bit int, on, off string) string {
		if sum/bit%2 == 1 {
			return on
		}
		return off
	}
	return hex(int(addr), 4) + " " + hex(int(data), 2) + " " + sign(1, "R", "W") + " " +
		sign(2, "A", "-") + sign(4, "S", "-") + sign(8, "L", "-") + sign(16, "V", "-") + sign(32, "B", "-") + " " + sign(64, "M", "-")
}

func TestP26_2TextRead(t *testing.T) {
	all(func(addr uint16, data byte, sum int) {
		r, s := made(addr, data, sum), text(addr, data, sum)
		if got := record.Text(r); got != s {
			t.Fatalf("Text(%+v): %s, not %s", r, got, s)
		}
		if got, e := record.Read(s); got != r || e != api.OK {
			t.Fatalf("Read(%s): %+v, %d", s, got, e)
		}
	})
	for addr := range 65536 {
		r, s := made(uint16(addr), byte(addr/7), addr%128), text(uint16(addr), byte(addr/7), addr%128)
		if got := record.Text(r); got != s {
			t.Fatalf("Text(%+v): %s, not %s", r, got, s)
		}
		if got, e := record.Read(s); got != r || e != api.OK {
			t.Fatalf("Read(%s): %+v, %d", s, got, e)
		}
	}
}

func TestP26_2TextSome(t *testing.T) {
	for s, r := range map[string]api.Rec{
		"FFFE 12 R -S-VB M": {Addr: 0xFFFE, Data: 0x12, Read: true, BS: true, AVMA: true, BUSY: true, Mine: true},
		"0000 00 W ----- -": {},
		"FFFF FF R ASLVB M": {Addr: 0xFFFF, Data: 0xFF, Read: true, BA: true, BS: true, LIC: true, AVMA: true, BUSY: true, Mine: true},
		"0ABC 0D W A---- -": {Addr: 0x0ABC, Data: 0x0D, BA: true},
		"0001 80 W --L-- M": {Addr: 1, Data: 0x80, LIC: true, Mine: true},
	} {
		if got := record.Text(r); got != s {
			t.Errorf("Text(%+v): %s, not %s", r, got, s)
		}
		if got, e := record.Read(s); got != r || e != api.OK {
			t.Errorf("Read(%s): %+v, %d", s, got, e)
		}
	}
}

// Each sign of a text as each other one: just those that a record's text may have there are read.
func TestP26_2ReadEachSign(t *testing.T) {
	const digits = "0123456789ABCDEF"
	allowed := [17]string{
		digits, digits, digits, digits, " ", digits, digits, " ", "RW", " ", "A-", "S-", "L-", "V-", "B-", " ", "M-",
	}
	for _, s := range []string{"FFFE 12 R -S-VB M", "0000 00 W ----- -", "90AF 9A R ASLVB -"} {
		for at := range s {
			for c := range 256 {
				b := []byte(s)
				b[at] = byte(c)
				changed := string(b)
				got, e := record.Read(changed)
				if strings.IndexByte(allowed[at], byte(c)) >= 0 {
					if e != api.OK || record.Text(got) != changed {
						t.Fatalf("Read(%q): %+v, %d", changed, got, e)
					}
				} else if got != (api.Rec{}) || e != api.ErrForm {
					t.Fatalf("Read(%q): %+v, %d", changed, got, e)
				}
			}
		}
	}
}

func TestP26_2ReadErrors(t *testing.T) {
	s := "FFFE 12 R -S-VB M"
	wrong := []string{
		"", " ", "M", s + " ", " " + s, s + "\n", s + s, s[1:], strings.ToLower(s), "fffe 12 R -S-VB M", "FFFE 1a R -S-VB M",
		"FFFE 12 R S--VB M", "FFFE 12 R SA--- M", "FFFE 12 r -S-VB M", "FFFE 12 R -S-VB m", "FFFE  12 R-S-VB M", "FFFE12  R -S-VB M",
		"FFE 12 R -S-VB M ", "+FFE 12 R -S-VB M", "FFFE 12 - -S-VB M", "FFFE 12 R -S-VB R", "FFFE\t12\tR\t-S-VB\tM", "FFFE 12 R  S-VB M",
		"FFFE 12 R -S-VB é", "éé 12 R -S-VB M", strings.Repeat("\x00", 17), strings.Repeat("\xFF", 17), strings.Repeat("F", 17), strings.Repeat("0", 100000),
	}
	for n := range len(s) {
		wrong = append(wrong, s[:n])
	}
	for _, w := range wrong {
		if got, e := record.Read(w); got != (api.Rec{}) || e != api.ErrForm {
			t.Errorf("Read(%q): %+v, %d", w, got, e)
		}
	}
}

func TestP26_2Lines(t *testing.T) {
	if got := record.Lines(); got != "" {
		t.Errorf("Lines of none: %q", got)
	}
	one := api.Rec{Addr: 0xFFFE, Data: 0x12, Read: true, BS: true, AVMA: true, BUSY: true, Mine: true}
	if got := record.Lines(one); got != "FFFE 12 R -S-VB M\n" {
		t.Errorf("Lines of one: %q", got)
	}
	if got := record.Lines(one, api.Rec{}, one); got != "FFFE 12 R -S-VB M\n0000 00 W ----- -\nFFFE 12 R -S-VB M\n" {
		t.Errorf("Lines of three: %q", got)
	}
	r := rand.New(rand.NewSource(26))
	var l []api.Rec
	want := ""
	for range 1000 {
		addr, data, sum := uint16(r.Intn(65536)), byte(r.Intn(256)), r.Intn(128)
		l = append(l, made(addr, data, sum))
		want += text(addr, data, sum) + "\n"
	}
	if got := record.Lines(l...); got != want {
		t.Errorf("Lines of many: %d bytes, not %d", len(got), len(want))
	}
}

// What is handed in stays, and what is answered is new memory (rule 5 of DOC.md); the same is answered again (P2).
func TestP2NewMemory(t *testing.T) {
	l := []api.Rec{{Addr: 1, Mine: true}, {Addr: 2, Read: true}}
	b := []byte{0, 1, 0, 64, 0, 2, 0, 1}
	for range 2 {
		put := record.Put(l...)
		got, e := record.Get(b)
		if !slices.Equal(put, b) || !slices.Equal(got, l) || e != api.OK {
			t.Errorf("% X, %+v, %d", put, got, e)
		}
		clear(put[:cap(put)])
		clear(got[:cap(got)])
	}
	if !slices.Equal(b, []byte{0, 1, 0, 64, 0, 2, 0, 1}) || l[0] != (api.Rec{Addr: 1, Mine: true}) {
		t.Errorf("what was handed in: % X, %+v", b, l)
	}
}
