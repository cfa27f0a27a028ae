package report_test

import (
	"errors"
	"fmt"
	"math"
	"math/rand"
	"slices"
	"strings"
	"testing"

	"spinet/api"
	"spinet/asm"
	"spinet/audit"
	"spinet/cpu"
	"spinet/machine"
	"spinet/record"
	"spinet/report"
)

// own: a record of a cycle of the processor's own, that isn't the last one of its row.
func own(at uint16) api.Rec { return api.Rec{Addr: at, Read: true, AVMA: true, Mine: true} }

// last: a record of one that is.
func last(at uint16) api.Rec {
	return api.Rec{Addr: at, Read: true, AVMA: true, LIC: true, Mine: true}
}

// dead: a record of a cycle that is nobody's.
func dead() api.Rec { return api.Rec{Addr: 0xFFFF, Read: true} }

// row: the records of a row, from an address on, of so many cycles.
func row(at uint16, many int) []api.Rec {
	var out []api.Rec
	for range many - 1 {
		out = append(out, own(at))
	}
	return append(out, last(at))
}

func TestP57_1Sum(t *testing.T) {
	for name, c := range map[string]struct {
		l    []api.Rec
		want string
	}{
		"none":            {nil, "rows 0 cycles 0 lost 0\naudit 0 0\n"},
		"a row":           {row(0x1A, 3), "rows 1 cycles 3 lost 0\n001A 1 3\naudit 3 0\n"},
		"not at its end":  {[]api.Rec{own(0xABCD)}, "rows 1 cycles 1 lost 0\nABCD 1 1\naudit 1 0\n"},
		"one of each":     {slices.Concat(row(5, 2), []api.Rec{own(5)}), "rows 2 cycles 3 lost 0\n0005 2 3\naudit 3 0\n"},
		"lost alone":      {[]api.Rec{dead(), dead()}, "rows 1 cycles 0 lost 2\naudit 2 0\n"},
		"lost ones count": {slices.Concat([]api.Rec{dead()}, row(7, 2), []api.Rec{dead(), dead()}), "rows 2 cycles 2 lost 3\n0007 1 2\naudit 5 0\n"},
		"most cycles first": {slices.Concat(row(1, 2), row(2, 3), row(3, 4)),
			"rows 3 cycles 9 lost 0\n0003 1 4\n0002 1 3\n0001 1 2\naudit 9 0\n"},
		"three at most": {slices.Concat(row(4, 5), row(3, 2), row(2, 3), row(1, 4), row(3, 2)),
			"rows 5 cycles 16 lost 0\n0004 1 5\n0001 1 4\n0003 2 4\naudit 16 0\n"},
		"lower addresses first": {slices.Concat(row(0xFFFF, 2), row(0x8000, 2), row(0x10, 2), row(0, 2)),
			"rows 4 cycles 8 lost 0\n0000 1 2\n0010 1 2\n8000 1 2\naudit 8 0\n"},
		"cycles, not times": {slices.Concat(row(1, 2), row(1, 2), row(1, 2), row(2, 7)),
			"rows 4 cycles 13 lost 0\n0002 1 7\n0001 3 6\naudit 13 0\n"},
		"lost ones make no top": {slices.Concat(row(1, 2), []api.Rec{dead(), dead(), dead()}, row(2, 3)),
			"rows 2 cycles 5 lost 3\n0002 1 3\n0001 1 2\naudit 8 0\n"},
		// What is wrong, and where: a cycle that isn't its own has a byte; BS of no vector; LIC without AVMA.
		"stands":  {slices.Concat(row(1, 2), []api.Rec{{Addr: 0xFFFF, Data: 1, Read: true}}), "rows 2 cycles 2 lost 1\n0001 1 2\naudit 2 1\n"},
		"vectors": {[]api.Rec{{Addr: 0xFFF1, BS: true, Read: true, AVMA: true, Mine: true}}, "rows 1 cycles 1 lost 0\nFFF1 1 1\naudit 0 3\n"},
		"ends":    {slices.Concat(row(1, 12), []api.Rec{{Read: true, LIC: true, Mine: true}}), "rows 2 cycles 13 lost 0\n0001 1 12\n0000 1 1\naudit 12 5\n"},
	} {
		kept := slices.Clone(c.l)
		if got := report.Sum(c.l...); got != c.want {
			t.Errorf("%s: %q, not %q", name, got, c.want)
		}
		if !slices.Equal(kept, c.l) {
			t.Errorf("%s: what came in is another one", name)
		}
	}
}

// sum: Sum, by going over the records once, and looking for the greatest three one by one.
func sum(l []api.Rec) string {
	type spot struct{ times, cycles int }
	spots := map[uint16]spot{}
	rows, cycles, inRow, at := 0, 0, 0, uint16(0)
	count := func() {
		if inRow > 0 {
			s := spots[at]
			spots[at] = spot{s.times + 1, s.cycles + inRow}
		}
		rows, inRow = rows+1, 0
	}
	open := false
	for _, r := range l {
		open = true
		if r.Mine {
			if inRow == 0 {
				at = r.Addr
			}
			inRow++
			cycles++
			if r.LIC {
				count()
				open = false
			}
		}
	}
	if open {
		count()
	}
	out := fmt.Sprintf("rows %d cycles %d lost %d\n", rows, cycles, len(l)-cycles)
	for range min(3, len(spots)) {
		best := -1
		for a := range 65536 {
			if s, ok := spots[uint16(a)]; ok && (best < 0 || s.cycles > spots[uint16(best)].cycles) {
				best = a
			}
		}
		s := spots[uint16(best)]
		delete(spots, uint16(best))
		out += fmt.Sprintf("%04X %d %d\n", best, s.times, s.cycles)
	}
	place, wrong := audit.Check(l...)
	return out + fmt.Sprintf("audit %d %d\n", place, wrong)
}

func TestP57_1SumAny(t *testing.T) {
	r := rand.New(rand.NewSource(571))
	on := func(of int) bool { return r.Intn(of) == 0 }
	for range 400 {
		l := make([]api.Rec, r.Intn(60))
		for i := range l {
			l[i] = api.Rec{Addr: []uint16{0, 1, 2, 0xFFFE, 0xFFFF, uint16(r.Intn(65536))}[r.Intn(6)], Data: byte(r.Intn(3)), Read: !on(4), BA: on(9), BS: on(9), LIC: on(3), AVMA: !on(9), BUSY: on(9), Mine: !on(5)}
		}
		if got, want := report.Sum(l...), sum(l); got != want {
			t.Fatalf("%v: %q, not %q", l, got, want)
		}
	}
}

func TestP57_2Run(t *testing.T) {
	const still = "S=0000 U=0000 X=0000 Y=0000"
	for name, c := range map[string]struct{ shape, program, script, want string }{
		"nothing": {"TSC", "", "", "PC=0000 " + still + " A=00 B=00 DP=00 CC=--------\nrows 0 cycles 0 lost 0\naudit 0 0\n"},
		"it goes round": {"TSC", "a: BRA a", ".*4", "" +
			"0000 20 R ---V- M\n0001 FE R ----- M\nFFFF 00 R --LV- M\n0000 20 R ---V- M\n" +
			"PC=0000 " + still + " A=00 B=00 DP=00 CC=--------\n" +
			"rows 2 cycles 4 lost 0\n0000 2 4\naudit 4 0\n"},
		"it loads and stores": {"DMA ROM F000", " LDA #5\n STA $100\n", ".*7", "" +
			"0000 86 R ---V- M\n0001 05 R --LV- M\n0002 B7 R ---V- M\n0003 01 R ---V- M\n0004 00 R ----- M\nFFFF 00 R ---V- M\n0100 05 W --LV- M\n" +
			"PC=0005 " + still + " A=05 B=00 DP=00 CC=--------\n" +
			"rows 2 cycles 7 lost 0\n0002 1 5\n0000 1 2\naudit 7 0\n"},
		"RESET, and HALT": {"TSC", " ORG $8000\n NOP\n ORG $FFFE\n FDB $8000", "R .*3 H*2 .", "" +
			"FFFE 80 R ---V- M\nFFFE 80 R -S-VB M\nFFFF 00 R -S--- M\nFFFF 00 R --LV- M\nFFFF 00 R ASL-- -\nFFFF 00 R ASL-- -\n8000 12 R ---V- M\n" +
			"PC=8000 " + still + " A=00 B=00 DP=00 CC=-F-I----\n" +
			"rows 2 cycles 5 lost 2\nFFFE 1 4\n8000 1 1\naudit 7 0\n"},
		"TSC": {"TSC", "", "Q", "FFFF 00 R AS--- -\nPC=0000 " + still + " A=00 B=00 DP=00 CC=--------\nrows 1 cycles 0 lost 1\naudit 1 0\n"},
		"DMA": {"DMA", "", "Q", "FFFF 00 R ----- -\nPC=0000 " + still + " A=00 B=00 DP=00 CC=--------\nrows 1 cycles 0 lost 1\naudit 1 0\n"},
		// From 0000 on nothing is written, but the program is there.
		"ROM": {"TSC ROM 0000", " INC 0\n", ".*9", "" +
			"0000 7C R ---V- M\n0001 00 R ---V- M\n0002 00 R ----- M\nFFFF 00 R ---V- M\n0000 7C R ----B M\nFFFF 00 R ---VB M\n0000 7D W --LV- M\n0003 00 R ---V- M\n0004 00 R ----- M\n" +
			"PC=0003 " + still + " A=00 B=00 DP=00 CC=--------\n" +
			"rows 2 cycles 9 lost 0\n0000 1 7\n0003 1 2\naudit 9 0\n"},
	} {
		if got, e := report.Run(c.shape, c.program, c.script); got != c.want || e != nil {
			t.Errorf("%s: %q, %v, not %q", name, got, e, c.want)
		}
	}
}

// wrong: Run of what must be wrong.
func wrong(t *testing.T, shape, program, script string, want report.Wrong) {
	t.Helper()
	s, e := report.Run(shape, program, script)
	w, ok := e.(*report.Wrong)
	if s != "" || !ok || w == nil || *w != want {
		t.Errorf("%.40q, %.40q, %.40q: %.40q, %+v, not %+v", shape, program, script, s, e, want)
		return
	}
	if part, ok := report.Part(e); part != want.Part || !ok {
		t.Errorf("Part: %d, %v, not %d", part, ok, want.Part)
	}
}

func TestP57_2WrongShapes(t *testing.T) {
	for _, s := range []string{"", "XYZ", "tsc", "TSC ", " TSC", "TSC ROM", "TSC ROM 10000", "TSC ROM F00", "DMA ROM f000", "TSC\n", "DMA TSC", "ROM F000"} {
		want := report.Wrong{Part: 1, Line: 0, Code: api.ErrForm}
		wrong(t, s, "", "", want)
		// It is the first one of whatever else is wrong.
		wrong(t, s, " NOP\n NOP 5", "x", want)
		wrong(t, s, "", ".*0", want)
	}
}

func TestP57_2WrongPrograms(t *testing.T) {
	for _, c := range []struct {
		program string
		line    int
		e       api.Errno
	}{
		{strings.Repeat(" ", 16385), 0, api.ErrSize},
		{"1: NOP", 1, api.ErrName},
		{"\n\n XYZ", 3, api.ErrName},
		{" NOP\n NOP 5\n", 2, api.ErrMode},
		{"a: NOP\na: NOP", 2, api.ErrTwice},
		{" ORG $FFFF\n NOP\nb: NOP", 3, api.ErrRange},
		{" LDA #b", 1, api.ErrName},
		{" NOP\n LDA #300", 2, api.ErrOver},
		{" FCB", 1, api.ErrForm},
		{" NOP\n\n EXG X", 3, api.ErrForm},
		{" PSHS A,A", 1, api.ErrTwice},
	} {
		if _, line, e := asm.Assemble(c.program); line != c.line || e != c.e {
			t.Errorf("%.40q: layer 46 tells %d, %v", c.program, line, e)
		}
		want := report.Wrong{Part: 2, Line: c.line, Code: c.e}
		wrong(t, "TSC", c.program, ".", want)
		wrong(t, "DMA ROM 1234", c.program, "x", want)
	}
	if _, e := report.Run("TSC", strings.Repeat(" ", 16384), ""); e != nil {
		t.Errorf("16384 bytes: %v", e)
	}
}

func TestP57_2WrongScripts(t *testing.T) {
	for s, code := range map[string]api.Errno{"x": api.ErrForm, ". NR": api.ErrForm, ".\n": api.ErrForm, ".*0": api.ErrArg, ". .*0 x": api.ErrArg, ".*4097": api.ErrSize, ".*4096 H": api.ErrSize, ".*99999999999999999999999": api.ErrSize, "r": api.ErrForm, ".*": api.ErrForm} {
		wrong(t, "DMA", "a: BRA a", s, report.Wrong{Part: 3, Line: 0, Code: code})
	}
	s, e := report.Run("TSC", "a: BRA a", ".*4095 H")
	if e != nil || strings.Count(s, "\n") != 4096+4 {
		t.Errorf("4096 cycles: %d lines, %v", strings.Count(s, "\n"), e)
	}
}

func TestP57_2Error(t *testing.T) {
	for _, c := range []struct {
		w    report.Wrong
		want string
	}{
		{report.Wrong{}, "part 0, line 0: spinet: error 0"},
		{report.Wrong{Part: 1, Code: api.ErrForm}, "part 1, line 0: spinet: error 21"},
		{report.Wrong{Part: 2, Line: 305, Code: api.ErrMode}, "part 2, line 305: spinet: error 42"},
		{report.Wrong{Part: 3, Code: api.ErrSize}, "part 3, line 0: spinet: error 12"},
		{report.Wrong{Part: -1, Line: -2, Code: -3}, "part 0, line 0: spinet: error below 0"},
		{report.Wrong{Part: math.MinInt, Line: math.MaxInt, Code: 7}, "part 0, line 9223372036854775807: spinet: error 7"},
		{report.Wrong{Part: math.MaxInt, Line: math.MinInt, Code: math.MinInt}, "part 9223372036854775807, line 0: spinet: error below 0"},
	} {
		if got := c.w.Error(); got != c.want {
			t.Errorf("%+v: %q, not %q", c.w, got, c.want)
		}
	}
	if _, e := report.Run("XYZ", "", ""); e == nil || e.Error() != "part 1, line 0: spinet: error 21" {
		t.Errorf("%v", e)
	}
	if _, e := report.Run("TSC", "\n NOP 5", ""); e == nil || e.Error() != "part 2, line 2: spinet: error 42" {
		t.Errorf("%v", e)
	}
}

// around wraps another error.
type around struct{ inner error }

func (a around) Error() string { return "around" }
func (a around) Unwrap() error { return a.inner }

// is says itself which *Wrong it is.
type is struct{ w *report.Wrong }

func (i is) Error() string { return "is" }
func (i is) As(to any) bool {
	w, ok := to.(**report.Wrong)
	if ok {
		*w = i.w
	}
	return ok
}

func TestP57_2Part(t *testing.T) {
	w, other := &report.Wrong{Part: 2, Line: 7, Code: api.ErrMode}, &report.Wrong{Part: -5}
	for name, c := range map[string]struct {
		e    error
		part int
		ok   bool
	}{
		"itself":        {w, 2, true},
		"below 0":       {other, -5, true},
		"of nothing":    {&report.Wrong{}, 0, true},
		"wrapped":       {fmt.Errorf("run: %w", w), 2, true},
		"wrapped twice": {around{fmt.Errorf("run: %w", w)}, 2, true},
		"the outer one": {errors.Join(w, other), 2, true},
		"behind others": {errors.Join(api.ErrForm, errors.New("x"), around{other}, w), -5, true},
		"says it is":    {around{is{w}}, 2, true},
		"none":          {nil, 0, false},
		"a number":      {api.ErrForm, 0, false},
		"OK":            {api.OK, 0, false},
		"another one":   {errors.New("part 2, line 7: spinet: error 42"), 0, false},
		"not wrapped":   {fmt.Errorf("run: %v", w), 0, false},
		"wraps nothing": {around{}, 0, false},
	} {
		if part, ok := report.Part(c.e); part != c.part || ok != c.ok {
			t.Errorf("%s: %d, %v, not %d, %v", name, part, ok, c.part, c.ok)
		}
	}
	if *w != (report.Wrong{Part: 2, Line: 7, Code: api.ErrMode}) || *other != (report.Wrong{Part: -5}) {
		t.Error("what came in is another one")
	}
}

// What is played is what a machine does that is made by hand.
func TestP57_2RunAny(t *testing.T) {
	r := rand.New(rand.NewSource(572))
	for range 120 {
		c := api.Config{Kind: r.Intn(2), Rom: r.Intn(65536)}
		shape := fmt.Sprintf("%s ROM %04X", []string{"TSC", "DMA"}[c.Kind], c.Rom)
		if r.Intn(4) == 0 {
			c.Rom = 65536
			shape = shape[:3]
		}
		image := make([]byte, 65536)
		program := ""
		for _, at := range []int{0, 0xFF00, 0xFFF0, r.Intn(65000)} {
			program += fmt.Sprintf(" ORG $%X\n", at)
			for i := range 16 {
				image[at+i] = byte(r.Intn(256))
				program += fmt.Sprintf("\tFCB %d\n", image[at+i])
			}
		}
		var l []api.Pins
		script := ""
		for range r.Intn(30) {
			p := api.Pins{Reset: r.Intn(20) == 0, Nmi: r.Intn(9) == 0, Firq: r.Intn(9) == 0, Irq: r.Intn(9) == 0, Halt: r.Intn(9) == 0, Req: r.Intn(5) == 0}
			n := 1 + r.Intn(20)
			l = append(l, slices.Repeat([]api.Pins{p}, n)...)
			w := ""
			for i, on := range []bool{p.Reset, p.Nmi, p.Firq, p.Irq, p.Halt, p.Req} {
				if on {
					w += "RNFIHQ"[i : i+1]
				}
			}
			if w == "" {
				w = "."
			}
			script += fmt.Sprintf(" %s*%d", w, n)
		}
		m, e := machine.Restore(c, cpu.State{}, image)
		if e != api.OK {
			t.Fatal(e)
		}
		want, recs := "", []api.Rec(nil)
		for _, p := range l {
			recs = append(recs, m.Cycle(p))
			want += record.Text(recs[len(recs)-1]) + "\n"
		}
		g := m.Regs()
		want += fmt.Sprintf("PC=%04X S=%04X U=%04X X=%04X Y=%04X A=%02X B=%02X DP=%02X CC=", g.PC, g.S, g.U, g.X, g.Y, g.A, g.B, g.DP)
		for i, c := range "EFHINZVC" {
			if g.CC>>(7-i)&1 == 0 {
				c = '-'
			}
			want += string(c)
		}
		want += "\n" + sum(recs)
		got, wrong := report.Run(shape, program, script)
		if got != want || wrong != nil {
			t.Fatalf("%s, %s:\n%s%v\nnot\n%s", shape, script, got, wrong, want)
		}
		// The trace of a machine is fine.
		if !strings.HasSuffix(got, fmt.Sprintf("audit %d 0\n", len(l))) {
			t.Errorf("%q", got[len(got)-30:])
		}
	}
}

// Any texts end in a text or in a *Wrong.
func TestP1AnyTexts(t *testing.T) {
	const signs = " :;\nNOPLDAX#$5,+[]*RFIHQ.\xff\x00"
	r := rand.New(rand.NewSource(1))
	shapes := []string{"TSC", "DMA", "TSC ROM 0000", "DMA ROM FFFF", "XYZ", ""}
	for range 2000 {
		b := make([]byte, r.Intn(40))
		for i := range b {
			b[i] = signs[r.Intn(len(signs))]
		}
		cut := r.Intn(len(b) + 1)
		shape := shapes[r.Intn(len(shapes))]
		s, e := report.Run(shape, string(b[:cut]), string(b[cut:]))
		part, ok := report.Part(e)
		if (e == nil) != (s != "") || ok != (e != nil) || part < 0 || part > 3 {
			t.Fatalf("%q, %q: %q, %v", shape, b, s, e)
		}
	}
}

func TestP2Again(t *testing.T) {
	for _, c := range [][3]string{{"TSC", "a: INC a+3\n BRA a", ".*50 N . I*9"}, {"DMA", "", "Q*40 R .*9"}, {"XYZ", "", ""}, {"TSC", " NOP 5", ""}, {"TSC", "", "x"}} {
		s, e := report.Run(c[0], c[1], c[2])
		report.Run("TSC", " SWI", ".*200")
		again, other := report.Run(c[0], c[1], c[2])
		if s != again || (e == nil) != (other == nil) || e != nil && e.Error() != other.Error() {
			t.Errorf("%q: %q, %v, then %q, %v", c, s, e, again, other)
		}
		// Each error is a new one: whoever changes it changes no other one.
		if w, ok := e.(*report.Wrong); ok {
			w.Part, w.Line, w.Code = 9, 9, 9
			if part, _ := report.Part(other); part == 9 {
				t.Errorf("%q: two errors are one", c)
			}
		}
	}
}
