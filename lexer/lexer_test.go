package lexer_test

import (
	"math/rand"
	"slices"
	"strings"
	"testing"

	"spinet/api"
	"spinet/lexer"
	"spinet/symbols"
)

func TestP43_1Known(t *testing.T) {
	for _, c := range []struct {
		s, label, op, arg string
	}{
		{"a: lda # 5 ; x", "a", "LDA", "#5"},
		{"", "", "", ""},
		{" ", "", "", ""},
		{"\t", "", "", ""},
		{" \t \t", "", "", ""},
		{";", "", "", ""},
		{"; a: lda", "", "", ""},
		{" ;a", "", "", ""},
		{"a", "a", "", ""},
		{"a:", "a", "", ""},
		{"a ", "a", "", ""},
		{"a: ", "a", "", ""},
		{"a;b", "a", "", ""},
		{"a:;b", "a", "", ""},
		{"a nop", "a", "NOP", ""},
		{"a\tnop", "a", "NOP", ""},
		{"a:nop", "a", "NOP", ""},
		{"a:\t nop\t", "a", "NOP", ""},
		{" nop", "", "NOP", ""},
		{"\tnop", "", "NOP", ""},
		{" nop;", "", "NOP", ""},
		{" nop ; it does nothing", "", "NOP", ""},
		{"  \t lda\t \t#5\t", "", "LDA", "#5"},
		{" lda #5;6", "", "LDA", "#5"},
		{" lda #';", "", "LDA", "#'"},
		{" fcb 1 , 2\t,3", "", "FCB", "1,2,3"},
		{" fcb ' ,2", "", "FCB", "',2"},
		{"_.9 x y z", "_.9", "X", "yz"},
		// Only what stands ahead of the first blank may end a label with a colon.
		{"a b:c", "a", "B:C", ""},
		{"a:b:c d", "a", "B:C", "d"},
		{" a: lda", "", "A:", "lda"},
		{"a :lda", "a", ":LDA", ""},
		{"a:: lda", "a", ":", "lda"},
		// Capital letters are made of a to z alone, and of the operation alone.
		{"aBc: lDaX Def", "aBc", "LDAX", "Def"},
		{" {az@AZ`[ az", "", "{AZ@AZ`[", "az"},
		{" ä\xE4\xFF ö", "", "ä\xE4\xFF", "ö"},
		// No other signs are blanks, and no other ones end a line.
		{" a\rb\vc \u00A0d\r", "", "A\rB\vC", "\u00A0d\r"},
		{" a\nb c\nd", "", "A\nB", "c\nd"},
		{"abcdefghijklmnop: rts", "abcdefghijklmnop", "RTS", ""},
	} {
		got, e := lexer.Cut(c.s)
		if want := (lexer.Line{Label: c.label, Op: c.op, Arg: c.arg}); e != api.OK || got != want {
			t.Errorf("Cut(%q): %q, %v, not %q", c.s, got, e, want)
		}
	}
}

func TestP43_1Wrong(t *testing.T) {
	for _, s := range []string{
		":", ": nop", ":a", "1: nop", "1a nop", "a-b: nop", "a,b nop", "abcdefghijklmnopq: nop", "abcdefghijklmnopq nop", "*a", "# remark",
		"é nop", "\r", "\nnop", "\u00A0nop", "a\r", "\x00", "a/:", "'", "\"a\"", ":;", "+", "a\v nop",
	} {
		got, e := lexer.Cut(s)
		if e != api.ErrName || got != (lexer.Line{}) {
			t.Errorf("Cut(%q): %q, %v", s, got, e)
		}
	}
}

// cut is another reckoning of Cut: sign by sign, by where one is.
func cut(s string) (lexer.Line, api.Errno) {
	const (
		atStart = iota
		inLabel
		behindLabel
		inOp
		behindOp
	)
	var label, op, arg []byte
	state, labelled := atStart, false
	for i := 0; i < len(s) && s[i] != ';'; i++ {
		c := s[i]
		isBlank := c == 32 || c == 9
		if state == atStart {
			state = behindLabel
			if !isBlank {
				state, labelled = inLabel, true
			}
		}
		switch {
		case state == inLabel && (isBlank || c == ':'):
			state = behindLabel
		case state == inLabel:
			label = append(label, c)
		case state == inOp && isBlank:
			state = behindOp
		case isBlank:
		case state == behindOp:
			arg = append(arg, c)
		default:
			state = inOp
			if c >= 97 && c <= 122 {
				c -= 32
			}
			op = append(op, c)
		}
	}
	if labelled && !symbols.Right(string(label)) {
		return lexer.Line{}, api.ErrName
	}
	return lexer.Line{Label: string(label), Op: string(op), Arg: string(arg)}, api.OK
}

func TestP43_1Any(t *testing.T) {
	r := rand.New(rand.NewSource(431))
	signs := "aZz9_. \t:;,'\xE9\r+"
	good := 0
	for range 200000 {
		b := make([]byte, r.Intn(14))
		for i := range b {
			b[i] = signs[r.Intn(len(signs))]
		}
		s := string(b)
		got, e := lexer.Cut(s)
		want, f := cut(s)
		if got != want || e != f {
			t.Fatalf("Cut(%q): %q, %v, not %q, %v", s, got, e, want, f)
		}
		if e == api.OK {
			good++
		}
	}
	if good < 50000 {
		t.Error("too few lines were right")
	}
}

func TestP43_1Bytes(t *testing.T) {
	for b := range 256 {
		c := string([]byte{byte(b)})
		for _, s := range []string{c, "a" + c, "a" + c + "b", " x" + c + "y", " x y" + c + "z", "a:" + c, "a" + c + ":", " " + c} {
			got, e := lexer.Cut(s)
			if want, f := cut(s); got != want || e != f {
				t.Errorf("Cut(%q): %q, %v, not %q, %v", s, got, e, want, f)
			}
		}
	}
}

func TestP43_2All(t *testing.T) {
	for _, c := range []struct {
		s    string
		want []lexer.Line
	}{
		{"", []lexer.Line{{}}},
		{"\n", []lexer.Line{{}, {}}},
		{"a\n", []lexer.Line{{Label: "a"}, {}}},
		{" nop\n\n b c ;d\ne", []lexer.Line{{Op: "NOP"}, {}, {Op: "B", Arg: "c"}, {Label: "e"}}},
		{" nop\r\n nop", []lexer.Line{{Op: "NOP\r"}, {Op: "NOP"}}},
	} {
		got, n, e := lexer.All(c.s)
		if e != api.OK || n != 0 || !slices.Equal(got, c.want) {
			t.Errorf("All(%q): %q, %d, %v", c.s, got, n, e)
		}
	}
	for _, c := range []struct {
		s string
		n int
	}{
		{":", 1}, {":\na", 1}, {"a\n:", 2}, {"a\n\n1\n:", 3}, {"\n\n\n\n9 nop\n", 5},
	} {
		got, n, e := lexer.All(c.s)
		if e != api.ErrName || n != c.n || len(got) > 0 {
			t.Errorf("All(%q): %q, %d, %v", c.s, got, n, e)
		}
	}
}

func TestP43_2AllOfAny(t *testing.T) {
	r := rand.New(rand.NewSource(432))
	signs := "ab :\n\n;,1"
	for range 20000 {
		b := make([]byte, r.Intn(20))
		for i := range b {
			b[i] = signs[r.Intn(len(signs))]
		}
		s := string(b)
		var want []lexer.Line
		wrong := 0
		for i, x := range strings.Split(s, "\n") {
			l, e := lexer.Cut(x)
			if e != api.OK && wrong == 0 {
				wrong = i + 1
			}
			want = append(want, l)
		}
		got, n, e := lexer.All(s)
		if wrong > 0 {
			if e != api.ErrName || n != wrong || len(got) > 0 {
				t.Fatalf("All(%q): %q, %d, %v", s, got, n, e)
			}
			continue
		}
		if e != api.OK || n != 0 || !slices.Equal(got, want) {
			t.Fatalf("All(%q): %q, %d, %v", s, got, n, e)
		}
	}
}

func TestP43_2Fields(t *testing.T) {
	for _, c := range []struct {
		s    string
		want []string
	}{
		{"", nil},
		{",", []string{"", ""}},
		{"a", []string{"a"}},
		{"a,b", []string{"a", "b"}},
		{"a,,b,", []string{"a", "", "b", ""}},
		{",,,", []string{"", "", "", ""}},
		{"',,1", []string{"'", "", "1"}},
		{" a ;b,\xFF\n", []string{" a ;b", "\xFF\n"}},
	} {
		if got := lexer.Fields(c.s); !slices.Equal(got, c.want) {
			t.Errorf("Fields(%q): %q", c.s, got)
		}
	}
}

func TestP2Again(t *testing.T) {
	a, _, _ := lexer.All("a b c\nd")
	a[0].Op = "changed"
	b, n, e := lexer.All("a b c\nd")
	if n != 0 || e != api.OK || !slices.Equal(b, []lexer.Line{{Label: "a", Op: "B", Arg: "c"}, {Label: "d"}}) {
		t.Error("another answer")
	}
	lexer.Fields("a,b")[0] = "c"
	if !slices.Equal(lexer.Fields("a,b"), []string{"a", "b"}) {
		t.Error("other fields")
	}
}
