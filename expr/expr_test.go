package expr_test

import (
	"fmt"
	"math/big"
	"math/rand"
	"strings"
	"testing"

	"spinet/api"
	"spinet/expr"
	"spinet/symbols"
)

// names is a table of some names.
func names() *symbols.Table {
	t := &symbols.Table{}
	for name, at := range map[string]uint16{
		"a": 1, "A": 2, "_": 3, ".": 4, "x9": 5, "top": 65535, "Half": 0x8000, "nought": 0, "abcdefghijklmnop": 77, ".x_.9Z": 1000, "D": 13, "R": 99,
	} {
		t.Set(name, at)
	}
	return t
}

func TestP44_1Known(t *testing.T) {
	for _, c := range []struct {
		s    string
		at   uint16
		want uint16
	}{
		{"$10+2-*", 1, 17},
		{"0", 7, 0},
		{"5", 7, 5},
		{"+5", 7, 5},
		{"-5", 7, 65531},
		{"-0", 7, 0},
		{"65535", 7, 65535},
		{"000065535", 7, 65535},
		{strings.Repeat("0", 1000) + "9", 7, 9},
		{"$0", 7, 0},
		{"$FFFF", 7, 65535},
		{"$ffff", 7, 65535},
		{"$aBcD", 7, 0xABCD},
		{"$" + strings.Repeat("0", 300) + "1f", 7, 31},
		{"%0", 7, 0},
		{"%1", 7, 1},
		{"%1010", 7, 10},
		{"%1111111111111111", 7, 65535},
		{"%" + strings.Repeat("0", 100) + "11", 7, 3},
		{"'A", 7, 65},
		{"''", 7, 39},
		{"'+", 7, 43},
		{"'-", 7, 45},
		{"'*", 7, 42},
		{"' ", 7, 32},
		{"'\xFF", 7, 255},
		{"'\x00", 7, 0},
		{"'\n", 7, 10},
		{"'5+5", 7, 58},
		{"'++'-", 7, 88},
		{"-'-", 7, 65536 - 45},
		{"*", 7, 7},
		{"*", 65535, 65535},
		{"-*", 7, 65529},
		{"*+*", 0x8001, 2},
		{"*-*", 9, 0},
		{"'*+*", 9, 51},
		{"a", 7, 1},
		{"A", 7, 2},
		{"_", 7, 3},
		{".", 7, 4},
		{"x9", 7, 5},
		{"D", 7, 13},
		{"-top", 7, 1},
		{"Half+Half", 7, 0},
		{"abcdefghijklmnop-.x_.9Z", 7, 65536 + 77 - 1000},
		{"nought-1", 7, 65535},
		{"65535+1", 7, 0},
		{"65535+65535", 7, 65534},
		{"1+2+3-4+5-6", 7, 1},
		{"10-3-2", 7, 5},
		{"$1-%1-1-'\x01", 7, 65534},
		{"+a-a+*", 7, 7},
		{"$A+A", 7, 12},
	} {
		if got, e := expr.Eval(c.s, c.at, names()); e != api.OK || got != c.want {
			t.Errorf("Eval(%q) at %d: %d, %v, not %d", c.s, c.at, got, e, c.want)
		}
	}
}

func TestP44_1Wrong(t *testing.T) {
	for _, c := range []struct {
		s    string
		want api.Errno
	}{
		// No term.
		{"", api.ErrForm}, {"+", api.ErrForm}, {"-", api.ErrForm}, {"5+", api.ErrForm}, {"5-", api.ErrForm}, {"$", api.ErrForm}, {"%", api.ErrForm},
		{"'", api.ErrForm}, {"5+'", api.ErrForm}, {"$+5", api.ErrForm}, {"%+1", api.ErrForm}, {"$g", api.ErrForm}, {"%2", api.ErrForm}, {"$-", api.ErrForm},
		{"--5", api.ErrForm}, {"+-5", api.ErrForm}, {"++5", api.ErrForm}, {"5+-5", api.ErrForm}, {"5--5", api.ErrForm}, {" 5", api.ErrForm}, {"(5)", api.ErrForm},
		{"#5", api.ErrForm}, {"<5", api.ErrForm}, {",", api.ErrForm}, {"/", api.ErrForm}, {":", api.ErrForm}, {"@", api.ErrForm}, {"[", api.ErrForm}, {"`", api.ErrForm},
		{"{", api.ErrForm}, {"é", api.ErrForm}, {"\xFF", api.ErrForm}, {"\x00", api.ErrForm}, {"\"", api.ErrForm}, {"a+ a", api.ErrForm}, {"٣", api.ErrForm},
		// Something else than a sign behind one.
		{"5 ", api.ErrForm}, {"5 +5", api.ErrForm}, {"5a", api.ErrForm}, {"5A", api.ErrForm}, {"5F", api.ErrForm}, {"5$5", api.ErrForm}, {"$5g", api.ErrForm}, {"%12", api.ErrForm},
		{"%1a", api.ErrForm}, {"a*", api.ErrForm}, {"a$", api.ErrForm}, {"**", api.ErrForm}, {"*5", api.ErrForm}, {"*a", api.ErrForm}, {"'ab", api.ErrForm}, {"'a'", api.ErrForm},
		{"''' ", api.ErrForm}, {"5*5", api.ErrForm}, {"5/5", api.ErrForm}, {"a b", api.ErrForm}, {"a,a", api.ErrForm}, {"5\n", api.ErrForm}, {"a'", api.ErrForm}, {"aé", api.ErrForm},
		// Numbers that are too great.
		{"65536", api.ErrOver}, {"-65536", api.ErrOver}, {"99999", api.ErrOver}, {"$10000", api.ErrOver}, {"%10000000000000000", api.ErrOver}, {"0065536", api.ErrOver},
		{"18446744073709551616", api.ErrOver}, {"18446744073709551617", api.ErrOver}, {"$10000000000000000", api.ErrOver}, {"$10000000000000001", api.ErrOver},
		{"1" + strings.Repeat("0", 3000), api.ErrOver}, {"$1" + strings.Repeat("0", 3000), api.ErrOver}, {"%1" + strings.Repeat("0", 3000), api.ErrOver},
		{"340282366920938463463374607431768211456", api.ErrOver}, {"5-65536", api.ErrOver},
		// Names that there aren't.
		{"b", api.ErrName}, {"aa", api.ErrName}, {"TOP", api.ErrName}, {"a9", api.ErrName}, {"abcdefghijklmnopq", api.ErrName}, {"abcdefghijklmno", api.ErrName}, {"..", api.ErrName},
		{"-b", api.ErrName}, {"5+b", api.ErrName}, {strings.Repeat("a", 5000), api.ErrName},
		// The first one from the left.
		{"b+65536", api.ErrName}, {"65536+b", api.ErrOver}, {"b+", api.ErrName}, {"65536+", api.ErrOver}, {"65536 ", api.ErrOver}, {"b ", api.ErrName}, {"65536a", api.ErrOver},
		{"5 65536", api.ErrForm}, {"5+ b", api.ErrForm}, {"--65536", api.ErrForm}, {"a+b+65536", api.ErrName}, {"a+65536+b", api.ErrOver}, {"$10000g", api.ErrOver}, {"b$", api.ErrName},
		{"'ab+65536", api.ErrForm}, {"a a+b", api.ErrForm}, {"5a+65536", api.ErrForm},
	} {
		if got, e := expr.Eval(c.s, 7, names()); e != c.want || got != 0 {
			t.Errorf("Eval(%.40q): %d, %v, not %v", c.s, got, e, c.want)
		}
	}
}

func TestP44_1Bytes(t *testing.T) {
	for b := range 256 {
		c := string([]byte{byte(b)})
		if v, e := expr.Eval("'"+c, 7, names()); e != api.OK || v != uint16(b) {
			t.Errorf("Eval of ' and %q: %d, %v", c, v, e)
		}
		_, e := expr.Eval("5"+c+"1", 7, names())
		want := api.ErrForm
		if strings.Contains("+-0123456789", c) {
			want = api.OK
		}
		if e != want {
			t.Errorf("5, %q and 1: %v", c, e)
		}
		// Behind a name's first sign.
		_, e = expr.Eval("q"+c, 7, names())
		want = api.ErrName
		if e != want {
			t.Errorf("q and %q: %v", c, e)
		}
		_, e = expr.Eval("a"+c+"1", 7, names())
		want = api.ErrForm
		switch {
		case strings.Contains("+-", c):
			want = api.OK
		case symbols.Right("a" + c):
			want = api.ErrName
		}
		if e != want {
			t.Errorf("a, %q and 1: %v, not %v", c, e, want)
		}
	}
}

// term is a term, with what it comes to; loose: it hangs on the address, or on names.
type term struct {
	text  string
	value int64
	err   api.Errno
	loose bool
}

// anyTerm: one of any kind; now and then one that is wrong.
func anyTerm(r *rand.Rand, at uint16, names *symbols.Table) term {
	n := r.Int63n(70000)
	if r.Intn(3) > 0 {
		n = r.Int63n(300)
	}
	e := api.OK
	if n > 65535 {
		e = api.ErrOver
	}
	noughts := strings.Repeat("0", r.Intn(4)*r.Intn(10))
	switch r.Intn(7) {
	case 0:
		return term{noughts + fmt.Sprint(n), n, e, false}
	case 1:
		return term{"$" + noughts + fmt.Sprintf([]string{"%x", "%X"}[r.Intn(2)], n), n, e, false}
	case 2:
		return term{"%" + noughts + fmt.Sprintf("%b", n), n, e, false}
	case 3:
		b := byte(r.Intn(256))
		return term{"'" + string([]byte{b}), int64(b), api.OK, false}
	case 4:
		return term{"*", int64(at), api.OK, true}
	case 5:
		l := names.Names()
		name := l[r.Intn(len(l))]
		v, _ := names.Get(name)
		return term{name, int64(v), api.OK, true}
	}
	if r.Intn(6) > 0 {
		return term{fmt.Sprint(n), n, e, false}
	}
	bad := []term{{"q", 0, api.ErrName, true}, {"nobody.9", 0, api.ErrName, true}, {",", 0, api.ErrForm, false}, {"$", 0, api.ErrForm, false}, {"%", 0, api.ErrForm, false}, {"99999999999999999999", 0, api.ErrOver, false}}
	return bad[r.Intn(len(bad))]
}

func TestP44_1Any(t *testing.T) {
	r := rand.New(rand.NewSource(441))
	table := names()
	good := 0
	for range 100000 {
		at := uint16(r.Intn(65536))
		sum, text, err, loose := big.NewInt(0), "", api.OK, false
		for n := range 1 + r.Intn(5) {
			x := anyTerm(r, at, table)
			sign := []string{"+", "-", ""}[r.Intn(3)]
			if n > 0 && sign == "" {
				sign = "-"
			}
			text += sign + x.text
			if err == api.OK {
				err = x.err
			}
			loose = loose || x.loose
			if sign == "-" {
				x.value = -x.value
			}
			sum.Add(sum, big.NewInt(x.value))
		}
		want := uint16(sum.Mod(sum, big.NewInt(65536)).Int64())
		if err != api.OK {
			want = 0
		} else {
			good++
		}
		got, e := expr.Eval(text, at, table)
		if got != want || e != err {
			t.Fatalf("Eval(%q) at %d: %d, %v, not %d, %v", text, at, got, e, want, err)
		}
		v, ok := expr.Const(text)
		if ok != (err == api.OK && !loose) || ok && v != want || !ok && v != 0 {
			t.Fatalf("Const(%q): %d, %v", text, v, ok)
		}
	}
	if good < 50000 {
		t.Error("too few expressions were right")
	}
}

func TestP44_2Const(t *testing.T) {
	for _, c := range []struct {
		s    string
		want uint16
		ok   bool
	}{
		{"5", 5, true}, {"-16", 65520, true}, {"$10+2-%1", 17, true}, {"'*", 42, true}, {"'a", 97, true}, {"'*-'*", 0, true}, {"65535+2", 1, true}, {"0", 0, true},
		{"*", 0, false}, {"5+*", 0, false}, {"*-*", 0, false}, {"'**", 0, false}, {"a", 0, false}, {"A", 0, false}, {"5-a", 0, false}, {"a-a", 0, false}, {"_", 0, false}, {".", 0, false},
		{"", 0, false}, {"5+", 0, false}, {"65536", 0, false}, {"5a", 0, false}, {"$", 0, false}, {"5 ", 0, false},
	} {
		if v, ok := expr.Const(c.s); v != c.want || ok != c.ok {
			t.Errorf("Const(%q): %d, %v", c.s, v, ok)
		}
	}
}

func TestP44_2FitsShort(t *testing.T) {
	for n := range 65536 {
		signed := int(int16(n))
		if got, want := expr.Fits(uint16(n)), signed >= -128 && signed <= 255; got != want {
			t.Errorf("Fits(%d): %v", n, got)
		}
		if got, want := expr.Short(uint16(n)), signed >= -128 && signed <= 127; got != want {
			t.Errorf("Short(%d): %v", n, got)
		}
	}
}

func TestP1AnyText(t *testing.T) {
	r := rand.New(rand.NewSource(442))
	signs := "09aAfg_.$%'*+- ,\xFF"
	table := names()
	for range 200000 {
		b := make([]byte, r.Intn(9))
		for i := range b {
			b[i] = signs[r.Intn(len(signs))]
		}
		v, e := expr.Eval(string(b), 9, table)
		if e != api.OK && v != 0 || e != api.OK && e != api.ErrForm && e != api.ErrOver && e != api.ErrName {
			t.Fatalf("Eval(%q): %d, %v", b, v, e)
		}
		c, ok := expr.Const(string(b))
		if ok && (e != api.OK || c != v) || !ok && c != 0 {
			t.Fatalf("Const(%q): %d, %v, beside %d, %v", b, c, ok, v, e)
		}
	}
	// 1, and 200000 times 1 less, is -199999: 62145 modulo 65536.
	if v, e := expr.Eval(strings.Repeat("1-", 200000)+"1", 0, table); e != api.OK || v != (4*65536-199999) {
		t.Error("a long expression", v, e)
	}
}

func TestP44_1Zero(t *testing.T) {
	var none symbols.Table
	if v, e := expr.Eval("5-*", 2, &none); v != 3 || e != api.OK {
		t.Error("a table without names")
	}
	if v, e := expr.Eval("a", 2, &none); v != 0 || e != api.ErrName {
		t.Error("a name in a table without names")
	}
	table := names()
	expr.Eval("a+nobody", 2, table)
	if table.Len() != names().Len() {
		t.Error("Eval changed the table")
	}
}
