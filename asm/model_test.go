package asm_test

import (
	"fmt"
	"math/rand"
	"strings"
	"testing"

	"spinet/api"
	"spinet/asm"
)

// sum is an expression: terms, each taken off or not.
type sum []struct {
	less bool
	name string // a name; * is the address; empty: a number
	n    uint16
}

// text: how it is written.
func (s sum) text(r *rand.Rand) string {
	out := ""
	for i, x := range s {
		switch {
		case x.less:
			out += "-"
		case i > 0 || r.Intn(5) == 0:
			out += "+"
		}
		if x.name != "" {
			out += x.name
			continue
		}
		out += fmt.Sprintf([]string{"%d", "$%X", "$%04x", "%%%b"}[r.Intn(4)], x.n)
	}
	return out
}

// value: what it comes to; false: there is no such name.
func (s sum) value(at int, names map[string]uint16) (uint16, bool) {
	var out uint16
	for _, x := range s {
		v, ok := x.n, true
		switch x.name {
		case "":
		case "*":
			v = uint16(at)
		default:
			v, ok = names[x.name]
		}
		if !ok {
			return 0, false
		}
		if x.less {
			v = -v
		}
		out += v
	}
	return out, true
}

// statement is a line: a label, and what makes its bytes of sums.
type statement struct {
	label string
	kind  string // EQU, ORG, RMB, FCB, FDB, none, or the name of an instruction
	form  string // of an instruction: how its operand is written, %s for the sum
	code  []byte // and its bytes ahead of the number
	more  string // and what number follows: none, byte, low, word, near, long, short
	sums  []sum
}

// instructions are some, of each form one at least.
var instructions = []statement{
	{kind: "NOP", code: []byte{0x12}},
	{kind: "LDA", form: "#%s", code: []byte{0x86}, more: "byte"},
	{kind: "LDY", form: "#%s", code: []byte{0x10, 0x8E}, more: "word"},
	{kind: "STA", form: "<%s", code: []byte{0x97}, more: "low"},
	{kind: "STA", form: "%s", code: []byte{0xB7}, more: "word"},
	{kind: "LDS", form: ">%s", code: []byte{0x10, 0xFE}, more: "word"},
	{kind: "BNE", form: "%s", code: []byte{0x26}, more: "near"},
	{kind: "BSR", form: "%s", code: []byte{0x8D}, more: "near"},
	{kind: "LBRA", form: "%s", code: []byte{0x16}, more: "long"},
	{kind: "LBMI", form: "%s", code: []byte{0x10, 0x2B}, more: "long"},
	{kind: "LDB", form: "<%s,Y", code: []byte{0xE6, 0xA8}, more: "short"},
	{kind: "LDB", form: "[<%s,PC]", code: []byte{0xE6, 0x9C}, more: "short"},
	{kind: "LEAX", form: ">%s,S", code: []byte{0x30, 0xE9}, more: "word"},
	{kind: "LEAX", form: "%s,PC", code: []byte{0x30, 0x8D}, more: "word"},
	{kind: "JMP", form: "[%s]", code: []byte{0x6E, 0x9F}, more: "word"},
	{kind: "LDX", form: ",U++", code: []byte{0xAE, 0xC1}},
	{kind: "PSHS", form: "D,PC", code: []byte{0x34, 0x86}},
	{kind: "EXG", form: "X,R7", code: []byte{0x1E, 0x17}},
	{kind: "SWI3", code: []byte{0x11, 0x3F}},
}

// long: how many bytes a statement makes.
func (s statement) long() int {
	switch s.kind {
	case "FCB":
		return len(s.sums)
	case "FDB":
		return 2 * len(s.sums)
	}
	return len(s.code) + map[string]int{"byte": 1, "low": 1, "word": 2, "near": 1, "long": 2, "short": 1}[s.more]
}

// number: the bytes of a value, of which kind it is; false: it may not be.
func number(more string, v uint16, next int) ([]byte, bool) {
	signed, off := int(int16(v)), v-uint16(next)
	switch more {
	case "byte":
		return []byte{byte(v)}, signed >= -128 && signed <= 255
	case "low":
		return []byte{byte(v)}, v < 256
	case "short":
		return []byte{byte(v)}, signed >= -128 && signed <= 127
	case "near":
		return []byte{byte(off)}, int16(off) >= -128 && int16(off) <= 127
	case "long":
		return []byte{byte(off >> 8), byte(off)}, true
	}
	return []byte{byte(v >> 8), byte(v)}, true
}

// model is what is known of a program, as it is gone over.
type model struct {
	at    int
	names map[string]uint16
	outs  []string
}

// set: a name stands for a value.
func (m *model) set(name string, v uint16) api.Errno {
	if old, ok := m.names[name]; ok && old != v {
		return api.ErrTwice
	}
	m.names[name] = v
	return api.OK
}

// pass goes over a statement the first time.
func (m *model) pass(s statement) api.Errno {
	if s.kind == "EQU" {
		v, ok := s.sums[0].value(m.at, m.names)
		if !ok || s.label == "" {
			return api.ErrName
		}
		return m.set(s.label, v)
	}
	if s.label != "" {
		if m.at == 65536 {
			return api.ErrRange
		}
		if e := m.set(s.label, uint16(m.at)); e != api.OK {
			return e
		}
	}
	step := s.long()
	if s.kind == "ORG" || s.kind == "RMB" {
		v, ok := s.sums[0].value(m.at, m.names)
		if !ok {
			return api.ErrName
		}
		if s.kind == "ORG" {
			m.at = 0
		}
		step = int(v)
	}
	if m.at+step > 65536 {
		return api.ErrRange
	}
	m.at += step
	return api.OK
}

// bytes are those of a statement at an address.
func (m *model) bytes(s statement, at int) ([]byte, api.Errno) {
	switch s.kind {
	case "EQU", "ORG", "RMB", "":
		return nil, api.OK
	}
	more := map[string]string{"FCB": "byte", "FDB": "word"}[s.kind]
	if more == "" {
		more = s.more
	}
	out := append([]byte(nil), s.code...)
	for _, x := range s.sums {
		v, ok := x.value(at, m.names)
		if !ok {
			return nil, api.ErrName
		}
		b, ok := number(more, v, at+s.long())
		if !ok {
			return nil, api.ErrOver
		}
		out = append(out, b...)
	}
	return out, api.OK
}

// reckon: the line that is wrong, and why, of a program; else it is in the model.
func (m *model) reckon(l []statement) (int, api.Errno) {
	var places []int
	for n, s := range l {
		places = append(places, m.at)
		if e := m.pass(s); e != api.OK {
			return n + 1, e
		}
	}
	for n, s := range l {
		b, e := m.bytes(s, places[n])
		if e != api.OK {
			return n + 1, e
		}
		if len(b) > 0 {
			m.outs = append(m.outs, fmt.Sprintf("%d:%04X:%X", n+1, places[n], b))
		}
	}
	return 0, api.OK
}

// anySum: one of a few terms; wild: some are great, or names that needn't be.
func anySum(r *rand.Rand, names []string, wild bool) sum {
	out := make(sum, 1+r.Intn(3))
	for i := range out {
		x := &out[i]
		x.less = r.Intn(3) == 0
		switch r.Intn(6) {
		case 0:
			x.name = "*"
		case 1, 2:
			x.name = names[r.Intn(len(names))]
		case 3:
			if wild {
				x.n = uint16(r.Intn(65536))
				break
			}
			fallthrough
		default:
			x.n = uint16(r.Intn(20))
		}
	}
	return out
}

// near: a sum that a branch reaches now and then.
func near(r *rand.Rand, names []string) sum {
	s := sum{{name: "*"}, {less: r.Intn(2) == 0, n: uint16(r.Intn(140))}}
	if r.Intn(3) == 0 {
		s = sum{{name: names[r.Intn(len(names))]}}
	}
	return s
}

// anyStatement: one; its label is given, or empty.
func anyStatement(r *rand.Rand, label string, names []string, wild bool) statement {
	s := statement{label: label}
	one := func() []sum { return []sum{anySum(r, names, wild)} }
	switch r.Intn(12) {
	case 0:
		return s
	case 1:
		s.kind, s.sums = "EQU", one()
		if label == "" && r.Intn(20) > 0 {
			s.kind, s.sums = "", nil
		}
	case 2:
		s.kind, s.sums = "RMB", []sum{{{n: uint16(r.Intn(30))}}}
		if wild && r.Intn(4) == 0 {
			s.sums = one()
		}
	case 3:
		s.kind, s.sums = "ORG", []sum{{{n: uint16(r.Intn(65536))}}}
		if r.Intn(3) == 0 {
			s.sums = one()
		}
	case 4, 5:
		s.kind = []string{"FCB", "FDB"}[r.Intn(2)]
		for range 1 + r.Intn(4) {
			s.sums = append(s.sums, anySum(r, names, wild && r.Intn(4) == 0))
		}
	default:
		i := instructions[r.Intn(len(instructions))]
		s.kind, s.form, s.code, s.more = i.kind, i.form, i.code, i.more
		switch s.more {
		case "":
		case "near":
			s.sums = []sum{near(r, names)}
		case "byte", "low", "short":
			s.sums = []sum{anySum(r, names[:3], wild && r.Intn(4) == 0)}
		default:
			s.sums = one()
		}
	}
	return s
}

// line: how a statement is written.
func (s statement) line(r *rand.Rand) string {
	out := s.label
	if s.label != "" {
		out += []string{":", "", ": "}[r.Intn(3)]
	}
	if s.kind != "" {
		var texts []string
		for _, x := range s.sums {
			texts = append(texts, x.text(r))
		}
		arg := strings.Join(texts, []string{",", " , "}[r.Intn(2)])
		if strings.Contains(s.form, "%s") {
			arg = fmt.Sprintf(s.form, arg)
		} else if s.form != "" {
			arg = s.form
		}
		kind := s.kind
		if r.Intn(3) == 0 {
			kind = strings.ToLower(kind)
		}
		out += []string{" ", "\t", "  "}[r.Intn(3)] + kind + " " + arg
	}
	if r.Intn(5) == 0 {
		out += "; a remark: , [ '"
	}
	return out
}

func TestP46_1Programs(t *testing.T) {
	r := rand.New(rand.NewSource(461))
	labels := []string{"a", "b", "c", "loop", "D", "X", ".t", "_1", "sixteen_signs_16"}
	met := map[api.Errno]int{}
	for range 30000 {
		wild := r.Intn(3) == 0
		// The first names are small numbers, so that many values may be.
		l := []statement{{label: "n1", kind: "EQU", sums: []sum{{{n: uint16(r.Intn(50))}}}}, {label: "n2", kind: "EQU", sums: []sum{{{less: true, n: uint16(r.Intn(50))}}}}, {label: "n3", kind: "EQU", sums: []sum{{{n: uint16(r.Intn(300))}}}}}
		names := append([]string{"n1", "n2", "n3", "n1", "n2"}, labels[:1+r.Intn(len(labels))]...)
		if wild {
			names = append(names, "nobody")
		}
		free := append([]string(nil), labels...)
		for range r.Intn(25) {
			label := ""
			if r.Intn(2) == 0 && len(free) > 0 {
				label = free[0]
				if r.Intn(30) > 0 {
					free = free[1:]
				}
			}
			l = append(l, anyStatement(r, label, names, wild))
		}
		var lines []string
		for _, s := range l {
			lines = append(lines, s.line(r))
		}
		text := strings.Join(lines, "\n")
		m := model{names: map[string]uint16{}}
		wrong, why := m.reckon(l)
		p, n, e := asm.Assemble(text)
		met[why]++
		if n != wrong || e != why {
			t.Fatalf("line %d, %v, not %d, %v, of\n%s", n, e, wrong, why, text)
		}
		if e != api.OK {
			if len(p.Outs) > 0 || p.Names != nil {
				t.Fatalf("a program beside an error of\n%s", text)
			}
			continue
		}
		if got, want := told(p.Outs), strings.Join(m.outs, " "); got != want {
			t.Fatalf("%s, not %s, of\n%s", got, want, text)
		}
		if p.Names.Len() != len(m.names) {
			t.Fatalf("%s of\n%s", called(p), text)
		}
		for name, v := range m.names {
			if at, ok := p.Names.Get(name); at != v || !ok {
				t.Fatalf("%s is %d, not %d, of\n%s", name, at, v, text)
			}
		}
	}
	for _, e := range []api.Errno{api.OK, api.ErrName, api.ErrTwice, api.ErrRange, api.ErrOver} {
		if met[e] < 100 {
			t.Errorf("%v: %d times", e, met[e])
		}
	}
}

func TestP1AnyText(t *testing.T) {
	r := rand.New(rand.NewSource(462))
	pieces := []string{"a", "b", ":", " ", " ", "\n", "\n ", ";", "LDA", "nop", "EQU", "ORG", "RMB", "FCB", "FDB", "PSHS", "TFR", "BRA", "LBEQ", "LEAX", "#", "<", ">", "[", "]", ",", "X", "PC", "++", "-", "5", "$FFFF", "65536", "*", "'", "\t", "\xFF", "A,B"}
	good := 0
	for range 100000 {
		text := ""
		for range r.Intn(16) {
			text += pieces[r.Intn(len(pieces))]
		}
		p, n, e := asm.Assemble(text)
		if e == api.OK {
			good++
			for _, o := range p.Outs {
				if len(o.B) == 0 || int(o.At)+len(o.B) > 65536 || o.Line < 1 || o.Line > 1+strings.Count(text, "\n") {
					t.Fatalf("%q: %s", text, told(p.Outs))
				}
			}
		}
		if (e == api.OK) != (n == 0) || (e == api.OK) != (p.Names != nil) || n > 1+strings.Count(text, "\n") {
			t.Fatalf("%q: line %d, %v", text, n, e)
		}
	}
	if good < 1000 {
		t.Errorf("%d texts were programs", good)
	}
}
