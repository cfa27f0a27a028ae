package line_test

import (
	"fmt"
	"math/rand"
	"regexp"
	"strings"
	"testing"

	"spinet/api"
	"spinet/expr"
	"spinet/line"
	"spinet/post"
)

const (
	x, y, u, s, pc = api.RegX, api.RegY, api.RegU, api.RegS, api.RegPC
)

// of: an indexed operand.
func of(size int, text string, kind, reg int) line.Arg {
	return line.Arg{Form: line.Index, Size: size, Expr: text, Post: post.Post{Kind: kind, Reg: reg}}
}

// five: one with an offset in its postbyte.
func five(text string, off uint16, reg int) line.Arg {
	a := of(0, text, post.Five, reg)
	a.Post.Off = off
	return a
}

// in: an operand that stood in brackets.
func in(a line.Arg) line.Arg {
	a.Post.Indirect = true
	return a
}

func TestP45_1Known(t *testing.T) {
	if line.None != 0 || line.Imm != 1 || line.Addr != 2 || line.Index != 3 {
		t.Error("the forms' numbers")
	}
	for _, c := range []struct {
		s    string
		want line.Arg
	}{
		{"", line.Arg{}},
		{"#", line.Arg{Form: line.Imm}},
		{"#5", line.Arg{Form: line.Imm, Expr: "5"}},
		{"#<5", line.Arg{Form: line.Imm, Expr: "<5"}},
		{"#,X", line.Arg{Form: line.Imm, Expr: ",X"}},
		{"#[5]", line.Arg{Form: line.Imm, Expr: "[5]"}},
		{"##", line.Arg{Form: line.Imm, Expr: "#"}},
		{"5", line.Arg{Form: line.Addr, Expr: "5"}},
		{"A", line.Arg{Form: line.Addr, Expr: "A"}},
		{"X", line.Arg{Form: line.Addr, Expr: "X"}},
		{"PC", line.Arg{Form: line.Addr, Expr: "PC"}},
		{"<5", line.Arg{Form: line.Addr, Size: 1, Expr: "5"}},
		{">5", line.Arg{Form: line.Addr, Size: 2, Expr: "5"}},
		{"<", line.Arg{Form: line.Addr, Size: 1}},
		{">", line.Arg{Form: line.Addr, Size: 2}},
		{"<<5", line.Arg{Form: line.Addr, Size: 1, Expr: "<5"}},
		{"><5", line.Arg{Form: line.Addr, Size: 2, Expr: "<5"}},
		{"5]", line.Arg{Form: line.Addr, Expr: "5]"}},
		{"<[5]", line.Arg{Form: line.Addr, Size: 1, Expr: "[5]"}},
		{"-X", line.Arg{Form: line.Addr, Expr: "-X"}},
		{"]", line.Arg{Form: line.Addr, Expr: "]"}},
		{"[5]", in(of(0, "5", post.Far, 0))},
		{"[>5]", in(of(2, "5", post.Far, 0))},
		{"[]", in(of(0, "", post.Far, 0))},
		{"[>]", in(of(2, "", post.Far, 0))},
		{"[[5]]", in(of(0, "[5]", post.Far, 0))},
		{"[#5]", in(of(0, "#5", post.Far, 0))},
		{"[X]", in(of(0, "X", post.Far, 0))},
		{",X", of(0, "", post.Plain, x)},
		{",Y", of(0, "", post.Plain, y)},
		{",U", of(0, "", post.Plain, u)},
		{",S", of(0, "", post.Plain, s)},
		{"[,S]", in(of(0, "", post.Plain, s))},
		{",X+", of(0, "", post.Inc1, x)},
		{",Y++", of(0, "", post.Inc2, y)},
		{",-U", of(0, "", post.Dec1, u)},
		{",--S", of(0, "", post.Dec2, s)},
		{"[,X++]", in(of(0, "", post.Inc2, x))},
		{"[,-Y]", in(of(0, "", post.Dec1, y))},
		{"A,X", of(0, "", post.AccA, x)},
		{"B,Y", of(0, "", post.AccB, y)},
		{"D,U", of(0, "", post.AccD, u)},
		{"[D,S]", in(of(0, "", post.AccD, s))},
		{"A,PC", of(0, "A", post.PcTwo, pc)},
		{"<B,PC", of(1, "B", post.PcOne, pc)},
		{"<A,X", of(1, "A", post.One, x)},
		{">D,X", of(2, "D", post.Two, x)},
		{"a,X", of(0, "a", post.Two, x)},
		{"AA,X", of(0, "AA", post.Two, x)},
		{"E,X", of(0, "E", post.Two, x)},
		{"0,X", five("0", 0, x)},
		{"15,Y", five("15", 15, y)},
		{"16,Y", of(0, "16", post.One, y)},
		{"-16,U", five("-16", 65520, u)},
		{"-17,U", of(0, "-17", post.One, u)},
		{"-1,S", five("-1", 65535, s)},
		{"65520,S", five("65520", 65520, s)},
		{"65519,S", of(0, "65519", post.One, s)},
		{"127,X", of(0, "127", post.One, x)},
		{"128,X", of(0, "128", post.Two, x)},
		{"-128,X", of(0, "-128", post.One, x)},
		{"-129,X", of(0, "-129", post.Two, x)},
		{"$10-1,X", five("$10-1", 15, x)},
		{"'*-'$,X", five("'*-'$", 6, x)},
		{"*,X", of(0, "*", post.Two, x)},
		{"*-*,X", of(0, "*-*", post.Two, x)},
		{"q,X", of(0, "q", post.Two, x)},
		{"65536,X", of(0, "65536", post.Two, x)},
		{"+,X", of(0, "+", post.Two, x)},
		{"5],X", of(0, "5]", post.Two, x)},
		{"[5],X]", in(of(0, "5]", post.Two, x))},
		{"[[5,X]", in(of(0, "[5", post.Two, x))},
		{"[0,X]", in(of(0, "0", post.One, x))},
		{"[-16,X]", in(of(0, "-16", post.One, x))},
		{"[127,X]", in(of(0, "127", post.One, x))},
		{"[128,X]", in(of(0, "128", post.Two, x))},
		{"[$10,X]", in(of(0, "$10", post.One, x))},
		{"<0,X", of(1, "0", post.One, x)},
		{"<500,X", of(1, "500", post.One, x)},
		{"<q,X", of(1, "q", post.One, x)},
		{"<,X", of(1, "", post.One, x)},
		{">0,X", of(2, "0", post.Two, x)},
		{">,X", of(2, "", post.Two, x)},
		{">q,X", of(2, "q", post.Two, x)},
		{"[<0,X]", in(of(1, "0", post.One, x))},
		{"[>0,X]", in(of(2, "0", post.Two, x))},
		{"0,PC", of(0, "0", post.PcTwo, pc)},
		{"<0,PC", of(1, "0", post.PcOne, pc)},
		{">0,PC", of(2, "0", post.PcTwo, pc)},
		{"[5,PC]", in(of(0, "5", post.PcTwo, pc))},
		{"[<5,PC]", in(of(1, "5", post.PcOne, pc))},
		{"<,PC", of(1, "", post.PcOne, pc)},
		{"1,2,X", of(0, "1,2", post.Two, x)},
		{",,X", of(0, ",", post.Two, x)},
		{"A,A,X", of(0, "A,A", post.Two, x)},
	} {
		if got, e := line.Parse(c.s); e != api.OK || got != c.want {
			t.Errorf("Parse(%q): %+v, %v, not %+v", c.s, got, e, c.want)
		}
	}
}

func TestP45_1Wrong(t *testing.T) {
	for _, s := range []string{
		"[", "[5", "[,X", "[5]x", "[5] ", "[,X]+", "[,X],X",
		"[<5]", "[<]", "[<$FFFF]",
		",", "5,", ",PC", "[,PC]", ",A", ",B", ",D", ",CC", ",DP", "5,A", "5,D", "A,D", ",x", "5,x", ",pc", "5,pc", "5,PCR", ",Z", "5,5", "X,", ", X", ",X ",
		"5,X+", "5,X++", "5,-X", "5,--X", "A,X+", "B,-Y", "D,--S", "<5,X+", "[5,X+]", "<,X+",
		",PC+", ",PC++", ",-PC", ",--PC", "5,PC+", "5,-PC",
		",-X+", ",--X++", ",-X++", ",---X", ",X+++", ",+X", ",++X", ",X-", ",X--", ",X+-", ",-", ",--", ",+", ",++", ",-+", ",+-X",
		"[,", "[,]", "[]]x", ",X]", "X,Y,", "5,X]", "[[,X]]",
	} {
		if got, e := line.Parse(s); e != api.ErrForm || got != (line.Arg{}) {
			t.Errorf("Parse(%q): %+v, %v", s, got, e)
		}
	}
}

// The forms of what stands behind the last comma, as patterns.
var (
	before = regexp.MustCompile(`^(-|--)([XYUS])$`)
	behind = regexp.MustCompile(`^([XYUS])(\+|\+\+)$`)
	alone  = regexp.MustCompile(`^(X|Y|U|S|PC)$`)
	parts  = regexp.MustCompile(`^(?s)(?:(.*),)?([^,]*)$`)
)

// register: by its name.
func register(name string) int {
	return map[string]int{"X": x, "Y": y, "U": u, "S": s, "PC": pc}[name]
}

// read is another reckoning of Parse, by patterns; false: ErrForm.
func read(s string) (line.Arg, bool) {
	a := line.Arg{Form: line.Addr}
	switch {
	case s == "":
		return line.Arg{}, true
	case s[0] == '#':
		return line.Arg{Form: line.Imm, Expr: s[1:]}, true
	case s[0] == '[':
		if len(s) < 2 || s[len(s)-1] != ']' {
			return line.Arg{}, false
		}
		s = s[1 : len(s)-1]
		a.Form, a.Post = line.Index, post.Post{Kind: post.Far, Indirect: true}
	}
	indirect := a.Post.Indirect
	sign := func(s string) {
		a.Expr = s
		if strings.HasPrefix(s, "<") || strings.HasPrefix(s, ">") {
			a.Size, a.Expr = map[byte]int{'<': 1, '>': 2}[s[0]], s[1:]
		}
	}
	if !strings.Contains(s, ",") {
		sign(s)
		return a, !indirect || a.Size != 1
	}
	m := parts.FindStringSubmatch(s)
	left, right := m[1], m[2]
	a.Form, a.Post.Kind = line.Index, post.Plain
	if m := before.FindStringSubmatch(right); m != nil {
		a.Post.Kind, a.Post.Reg = map[string]int{"-": post.Dec1, "--": post.Dec2}[m[1]], register(m[2])
		return a, left == ""
	}
	if m := behind.FindStringSubmatch(right); m != nil {
		a.Post.Kind, a.Post.Reg = map[string]int{"+": post.Inc1, "++": post.Inc2}[m[2]], register(m[1])
		return a, left == ""
	}
	if !alone.MatchString(right) {
		return line.Arg{}, false
	}
	a.Post.Reg = register(right)
	if left == "" {
		return a, right != "PC"
	}
	if kind := map[string]int{"A": post.AccA, "B": post.AccB, "D": post.AccD}[left]; kind > 0 && right != "PC" {
		a.Post.Kind = kind
		return a, true
	}
	sign(left)
	v, known := expr.Const(a.Expr)
	signed := int(int16(v))
	kinds := []int{post.Two, post.One, post.Two}
	if right == "PC" {
		kinds = []int{post.PcTwo, post.PcOne, post.PcTwo}
	}
	a.Post.Kind = kinds[a.Size]
	if right == "PC" || a.Size > 0 || !known {
		return a, true
	}
	if signed >= -128 && signed <= 127 {
		a.Post.Kind = post.One
	}
	if signed >= -16 && signed <= 15 && !indirect {
		a.Post.Kind, a.Post.Off = post.Five, v
	}
	return a, true
}

func TestP45_1Any(t *testing.T) {
	r := rand.New(rand.NewSource(451))
	pieces := []string{"[", "]", "#", "<", ">", ",", ",", ",", "X", "Y", "U", "S", "PC", "A", "B", "D", "+", "++", "-", "--", "5", "$10", "127", "128", "q", "*", "-16", "-17", " ", "x", "300"}
	good := map[int]int{}
	for range 300000 {
		text := ""
		for range r.Intn(7) {
			text += pieces[r.Intn(len(pieces))]
		}
		if r.Intn(4) == 0 {
			text = "[" + text + "]"
		}
		got, e := line.Parse(text)
		want, ok := read(text)
		if !ok {
			want = line.Arg{}
		}
		if got != want || (e == api.OK) != ok || e != api.OK && e != api.ErrForm {
			t.Fatalf("Parse(%q): %+v, %v, not %+v, %v", text, got, e, want, ok)
		}
		if ok {
			good[got.Form*100+got.Post.Kind]++
			if _, there := got.Post.Code(); got.Form == line.Index && !there {
				t.Fatalf("Parse(%q): no postbyte says %+v", text, got.Post)
			}
		}
	}
	for kind := post.Plain; kind <= post.Far; kind++ {
		if good[line.Index*100+kind] < 10 {
			t.Errorf("the kind %d: %d times", kind, good[line.Index*100+kind])
		}
	}
}

func TestP45_1Offsets(t *testing.T) {
	for n := range 65536 {
		for _, text := range []string{fmt.Sprint(n), fmt.Sprintf("$%X", n), fmt.Sprintf("-%d", 65536-n)}[:min(3, 2+n)] {
			for _, form := range []string{"%s,X", "[%s,U]"} {
				operand := fmt.Sprintf(form, text)
				got, e := line.Parse(operand)
				want, _ := read(operand)
				if e != api.OK || got != want {
					t.Fatalf("Parse(%q): %+v, %v, not %+v", operand, got, e, want)
				}
			}
		}
	}
}

func TestP45_2Pair(t *testing.T) {
	codes := []string{"D", "X", "Y", "U", "S", "PC", "R6", "R7", "A", "B", "CC", "DP", "R12", "R13", "R14", "R15"}
	for hi, first := range codes {
		for lo, second := range codes {
			if got, e := line.Pair(first + "," + second); e != api.OK || got != byte(hi*16+lo) {
				t.Errorf("Pair of %s and %s: %02X, %v", first, second, got, e)
			}
		}
	}
	for _, s := range []string{"", "D", "DX", "R6", "D X", "D;X", "Q", "\xFF"} {
		if got, e := line.Pair(s); e != api.ErrForm || got != 0 {
			t.Errorf("Pair(%q): %02X, %v", s, got, e)
		}
	}
	for _, s := range []string{
		",", "D,", ",X", "D,Q", "Q,D", "D,X,Y", "D,,X", "D, X", "D ,X", "d,X", "D,x", "R0,X", "R1,X", "R5,X", "R8,X", "R9,X", "R10,X", "R11,X", "R16,X", "X,R16",
		"R06,X", "R,X", "6,7", "r6,X", "R6,r7", "R012,X", "X,R12,", "PCR,X", "$1,$2", "R-6,X", "C,D", "SP,D", "X,P", "R60,X",
	} {
		if got, e := line.Pair(s); e != api.ErrName || got != 0 {
			t.Errorf("Pair(%q): %02X, %v", s, got, e)
		}
	}
}

func TestP2Again(t *testing.T) {
	a, e := line.Parse("[$10,X]")
	line.Parse("[")
	line.Parse("5,Y")
	if b, f := line.Parse("[$10,X]"); a != b || e != f {
		t.Error("another answer")
	}
}
