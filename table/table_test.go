package table_test

import (
	"math"
	"strconv"
	"strings"
	"testing"

	"spinet/api"
	"spinet/inst"
	"spinet/table"
)

// The cycles of the opcodes, sixteen a line, written by hand (SYNC and CWAI up to where they wait); of the indexed mode without the postbyte's, of PSH and PUL without the registers', of RTI and long branches the least. A minus sign: none is listed. Page 2 has its lines from 20 on, page 3 from 30 on.
const (
	first = `
6  -  -  6  6  -  6  6  6  6  6  -  6  6  3  6
-  -  2  3  -  -  5  9  -  2  3  -  3  2  8  6
3  3  3  3  3  3  3  3  3  3  3  3  3  3  3  3
4  4  4  4  5  5  5  5  -  5  3  6  16 11 -  19
2  -  -  2  2  -  2  2  2  2  2  -  2  2  -  2
2  -  -  2  2  -  2  2  2  2  2  -  2  2  -  2
6  -  -  6  6  -  6  6  6  6  6  -  6  6  3  6
7  -  -  7  7  -  7  7  7  7  7  -  7  7  4  7
2  2  2  4  2  2  2  -  2  2  2  2  4  7  3  -
4  4  4  6  4  4  4  4  4  4  4  4  6  7  5  5
4  4  4  6  4  4  4  4  4  4  4  4  6  7  5  5
5  5  5  7  5  5  5  5  5  5  5  5  7  8  6  6
2  2  2  4  2  2  2  -  2  2  2  2  3  -  3  -
4  4  4  6  4  4  4  4  4  4  4  4  5  5  5  5
4  4  4  6  4  4  4  4  4  4  4  4  5  5  5  5
5  5  5  7  5  5  5  5  5  5  5  5  6  6  6  6`

	second = `
-  5  5  5  5  5  5  5  5  5  5  5  5  5  5  5
-  -  -  -  -  -  -  -  -  -  -  -  -  -  -  20
-  -  -  -  -  -  -  -  -  -  -  -  -  -  -  -
-  -  -  -  -  -  -  -  -  -  -  -  -  -  -  -
-  -  -  -  -  -  -  -  -  -  -  -  -  -  -  -
-  -  -  -  -  -  -  -  -  -  -  -  -  -  -  -
-  -  -  5  -  -  -  -  -  -  -  -  5  -  4  -
-  -  -  7  -  -  -  -  -  -  -  -  7  -  6  6
-  -  -  7  -  -  -  -  -  -  -  -  7  -  6  6
-  -  -  8  -  -  -  -  -  -  -  -  8  -  7  7
-  -  -  -  -  -  -  -  -  -  -  -  -  -  4  -
-  -  -  -  -  -  -  -  -  -  -  -  -  -  6  6
-  -  -  -  -  -  -  -  -  -  -  -  -  -  6  6
-  -  -  -  -  -  -  -  -  -  -  -  -  -  7  7`

	third = `
-  -  -  -  -  -  -  -  -  -  -  -  -  -  -  20
-  -  -  -  -  -  -  -  -  -  -  -  -  -  -  -
-  -  -  -  -  -  -  -  -  -  -  -  -  -  -  -
-  -  -  -  -  -  -  -  -  -  -  -  -  -  -  -
-  -  -  -  -  -  -  -  -  -  -  -  -  -  -  -
-  -  -  5  -  -  -  -  -  -  -  -  5  -  -  -
-  -  -  7  -  -  -  -  -  -  -  -  7  -  -  -
-  -  -  7  -  -  -  -  -  -  -  -  7  -  -  -
-  -  -  8  -  -  -  -  -  -  -  -  8  -  -  -`
)

// extras are the cycles that a postbyte from 128 on costs, by its lower half, without and with an indirection.
const (
	extras  = "2 3 2 3 0 1 1 0 1 4 0 4 1 5 0 5"
	through = "5 6 5 6 3 4 4 3 4 7 3 7 4 8 3 5"
)

// known is an instruction, and what the document says of it.
type known struct {
	i                api.Inst
	least, condition int // the condition: of a long branch that may be taken; else -1
	rti              bool
}

// number: of a list's field; dash, if that is a minus sign.
func number(list []string, at, dash int) int {
	n, err := strconv.Atoi(list[at])
	if err != nil {
		return dash
	}
	return n
}

// all: instructions of all opcodes and all postbytes.
func all(t *testing.T) []known {
	t.Helper()
	var out []known
	begins := map[int]int{1: 0x00, 2: 0x20, 3: 0x30}
	for p, list := range map[int]string{1: first, 2: second, 3: third} {
		fields := strings.Fields(list)
		for code := range 256 {
			if p == 1 && (code == 0x10 || code == 0x11) {
				continue
			}
			least := map[int]int{1: 2, 2: 3, 3: 3}[p]
			if at := code - begins[p]; at >= 0 && at < len(fields) {
				least = number(fields, at, least)
			}
			for post := range 256 {
				b := []byte{byte(code), byte(post), 3, 4, 5}
				if p > 1 {
					b = append([]byte{byte(14 + p)}, b...)
				}
				i, e := inst.Of(b...)
				if e != api.OK {
					t.Fatal(p, code, e)
				}
				k := known{i: i, least: least, condition: -1, rti: p == 1 && code == 0x3B}
				switch i.Entry.Mode {
				case api.ModeIdx:
					k.least += extra(post)
				case api.ModeMany:
					k.least += pushed(post)
				}
				if p == 2 && code > 0x21 && code < 0x30 {
					k.condition = code - 0x20
				}
				out = append(out, k)
			}
		}
	}
	return out
}

// extra: what a postbyte of the indexed mode costs.
func extra(post int) int {
	switch {
	case post < 128:
		return 1
	case post/16%2 == 1:
		return number(strings.Fields(through), post%16, 0)
	}
	return number(strings.Fields(extras), post%16, 0)
}

// pushed: how many bytes a postbyte pushes.
func pushed(post int) int {
	n := 0
	for bit := range 8 {
		n += post >> bit % 2
		if bit > 3 {
			n += post >> bit % 2
		}
	}
	return n
}

// holds: does a condition from 2 on hold?
func holds(n, cc int) bool {
	neg, zero, over, carry := cc/8%2 == 1, cc/4%2 == 1, cc/2%2 == 1, cc%2 == 1
	yes := []bool{!carry && !zero, !carry, !zero, !over, !neg, neg == over, !zero && neg == over}[n/2-1]
	return yes == (n%2 == 0)
}

func TestP19_1(t *testing.T) {
	for _, k := range all(t) {
		taken, whole := 0, 0
		if k.condition >= 0 {
			taken = 1
		}
		if k.rti {
			whole = 9
		}
		if got := table.Least(k.i); got != k.least {
			t.Fatalf("Least(%+v): %d, not %d", k.i, got, k.least)
		}
		if got := table.Taken(k.i); got != taken {
			t.Fatalf("Taken(%+v): %d, not %d", k.i, got, taken)
		}
		if got := table.Whole(k.i); got != whole {
			t.Fatalf("Whole(%+v): %d, not %d", k.i, got, whole)
		}
		if got := table.Most(k.i); got != k.least+taken+whole {
			t.Fatalf("Most(%+v): %d, not %d", k.i, got, k.least+taken+whole)
		}
	}
}

func TestP19_1Of(t *testing.T) {
	codes := []int{0, 127, 128, 255}
	seen := map[api.Inst]bool{}
	for _, k := range all(t) {
		if seen[k.i] {
			continue
		}
		seen[k.i] = true
		for cc := range 256 {
			for _, pulled := range codes {
				want := k.least
				if k.condition >= 0 && holds(k.condition, cc) {
					want++
				}
				if k.rti && pulled >= 128 {
					want += 9
				}
				if got := table.Of(k.i, byte(cc), byte(pulled)); got != want {
					t.Fatalf("Of(%+v, %d, %d): %d, not %d", k.i, cc, pulled, got, want)
				}
			}
		}
	}
	// Of RTI just E is asked, of what is pulled alone.
	rti, _ := inst.Of(0x3B)
	for pulled := range 256 {
		want := 6
		if pulled >= 128 {
			want = 15
		}
		for cc := range 256 {
			if got := table.Of(rti, byte(cc), byte(pulled)); got != want {
				t.Fatalf("Of RTI, %d, %d: %d", cc, pulled, got)
			}
		}
	}
}

func TestP19_1Some(t *testing.T) {
	cases := []struct {
		b           []byte
		least, most int
	}{
		{[]byte{0x96, 0}, 4, 4},
		{[]byte{0x10, 0x8E, 0, 0}, 4, 4},
		{[]byte{0x12}, 2, 2},
		{[]byte{0x86, 5}, 2, 2},
		{[]byte{0xB7, 1, 0}, 5, 5},
		{[]byte{0x30, 1}, 5, 5},
		{[]byte{0x13}, 3, 3},
		{[]byte{0x3C, 0xFF}, 16, 16},
		{[]byte{0x3F}, 19, 19},
		{[]byte{0x10, 0x3F}, 20, 20},
		{[]byte{0x3B}, 6, 15},
		{[]byte{0x34, 0}, 5, 5},
		{[]byte{0x34, 0xFF}, 17, 17},
		{[]byte{0x20, 0}, 3, 3},
		{[]byte{0x27, 0}, 3, 3},
		{[]byte{0x16, 0, 0}, 5, 5},
		{[]byte{0x10, 0x27, 0, 0}, 5, 6},
		{[]byte{0x10, 0x21, 0, 0}, 5, 5},
		{[]byte{0x87}, 2, 2},
		{[]byte{0x10, 0x10}, 3, 3},
		{[]byte{0x11, 0x12}, 3, 3},
		{[]byte{0x10, 0xA3, 0x9D, 0, 0}, 15, 15},
		{[]byte{0xAD, 0x9F, 0, 0}, 12, 12},
	}
	for _, c := range cases {
		i, _ := inst.Of(c.b...)
		if least, most := table.Least(i), table.Most(i); least != c.least || most != c.most {
			t.Errorf("% X: %d, %d, not %d, %d", c.b, least, most, c.least, c.most)
		}
	}
}

// No row of an instruction is longer than rows may be.
func TestP19_1Limit(t *testing.T) {
	longest := 0
	for _, k := range all(t) {
		longest = max(longest, table.Most(k.i))
	}
	if longest != api.MaxRow {
		t.Errorf("the longest one takes %d cycles", longest)
	}
}

func TestP19_2Row(t *testing.T) {
	want := map[int]int{1: 19, 2: 10, 3: 19, 4: 3, 5: 3, 6: 3, 7: 3}
	for kind := -300; kind < 300; kind++ {
		if got := table.Row(kind); got != want[kind] {
			t.Errorf("Row(%d): %d, not %d", kind, got, want[kind])
		}
	}
	for _, kind := range []int{1<<32 + 1, math.MaxInt, math.MinInt, math.MinInt + 1} {
		if got := table.Row(kind); got != 0 {
			t.Errorf("Row(%d): %d", kind, got)
		}
	}
}

// Raw instructions end, too, and the same is answered again (P1 and P2 of DOC.md).
func TestP1P2RawValues(t *testing.T) {
	numbers := []int{-1, 0, 1, 3, 8, 16, 35, 49, 99, math.MaxInt, math.MinInt}
	for _, p := range numbers {
		for _, op := range numbers {
			for mode := -1; mode < 12; mode++ {
				for _, reg := range numbers {
					i := api.Inst{Page: p, Code: 255, Entry: api.Entry{Op: op, Mode: mode, Reg: reg}, Post: 255, Value: 65535, Len: reg}
					least, most := table.Least(i), table.Most(i)
					if of := table.Of(i, 255, 255); of < least || of > most || table.Least(i) != least || table.Most(i) != most {
						t.Fatalf("%+v: %d, %d, %d", i, least, of, most)
					}
				}
			}
		}
	}
}
