package audit_test

import (
	"math/rand"
	"slices"
	"testing"

	"spinet/api"
	"spinet/audit"
	"spinet/cpu"
	"spinet/edge"
	"spinet/machine"
	"spinet/record"
)

// The records of a trace that is fine, by what they are.
const (
	op      = "1234 12 R ---V- M" // reads an opcode
	next    = "1235 34 R ----- M" // the bus isn't used in the next own cycle
	idle    = "FFFF 56 R ---V- M"
	quiet   = "FFFF 56 R ----- M"
	store   = "0100 05 W --LV- M"
	vector  = "FFFC 80 R -S-VB M"
	second  = "FFFD 08 R -S--- M"
	reset   = "FFFE 12 R ---V- M"
	waits   = "FFFF 00 R A---- M"
	granted = "FFFF 00 R AS--- -"
	halted  = "FFFF 00 R ASL-- -"
	dead    = "FFFF 00 R ----- -"
)

// trace: the records of texts.
func trace(t *testing.T, l ...string) []api.Rec {
	t.Helper()
	var out []api.Rec
	for _, s := range l {
		r, e := record.Read(s)
		if e != api.OK {
			t.Fatalf("%q: %v", s, e)
		}
		out = append(out, r)
	}
	return out
}

func TestP55_1Numbers(t *testing.T) {
	got := [7]int{audit.Fine, audit.Stands, audit.Waits, audit.Vectors, audit.Writes, audit.Ends, audit.Goes}
	if got != [7]int{0, 1, 2, 3, 4, 5, 6} {
		t.Error(got)
	}
}

func TestP55_1Known(t *testing.T) {
	for _, c := range []struct {
		l     []string
		at    int
		wrong int
	}{
		{nil, 0, audit.Fine},
		{[]string{op}, 1, audit.Fine},
		{[]string{op, next, idle, store, granted, dead, halted, reset, vector, second, quiet, waits, waits}, 13, audit.Fine},
		// Cycles in which it stands.
		{[]string{"FFFE 00 R ----- -"}, 0, audit.Stands},
		{[]string{"0000 00 R AS--- -"}, 0, audit.Stands},
		{[]string{"FFFF 01 R ----- -"}, 0, audit.Stands},
		{[]string{"FFFF 80 R ASL-- -"}, 0, audit.Stands},
		{[]string{"FFFF 00 W ----- -"}, 0, audit.Stands},
		{[]string{"FFFF 00 W AS--- -"}, 0, audit.Stands},
		{[]string{"FFFF 00 R ---V- -"}, 0, audit.Stands},
		{[]string{"FFFF 00 R ----B -"}, 0, audit.Stands},
		{[]string{"FFFF 00 R A---- -"}, 0, audit.Stands},
		{[]string{"FFFF 00 R -S--- -"}, 0, audit.Stands},
		{[]string{"FFFF 00 R --L-- -"}, 0, audit.Stands},
		{[]string{"FFFF 00 R A-L-- -"}, 0, audit.Stands},
		{[]string{"FFFF 00 R -SL-- -"}, 0, audit.Stands},
		{[]string{op, dead, "FFFF 00 R ASL-B -", "0000 00 W ASLVB -"}, 2, audit.Stands},
		// Those of SYNC's wait.
		{[]string{"FFFE 00 R A---- M"}, 0, audit.Waits},
		{[]string{"FFFF 01 R A---- M"}, 0, audit.Waits},
		{[]string{"FFFF 00 W A---- M"}, 0, audit.Waits},
		{[]string{"FFFF 00 R A--V- M"}, 0, audit.Waits},
		{[]string{"FFFF 00 R A---B M"}, 0, audit.Waits},
		{[]string{"FFFF 00 R AS--- M"}, 0, audit.Waits},
		{[]string{"FFFF 00 R A-L-- M"}, 0, audit.Waits},
		{[]string{"0000 00 W ASL-B M"}, 0, audit.Waits},
		// Vectors.
		{[]string{"FFF2 12 R -S-VB M"}, 1, audit.Fine},
		{[]string{"FFFF 12 R -S-VB M"}, 1, audit.Fine},
		{[]string{"FFF1 12 R -S-VB M"}, 0, audit.Vectors},
		{[]string{"0000 12 R -S--- M"}, 0, audit.Vectors},
		{[]string{"FFFC 12 W -S-VB M"}, 0, audit.Vectors},
		{[]string{op, "FFF2 12 W -SL-- M"}, 1, audit.Vectors},
		// The last cycles of rows.
		{[]string{"1234 12 R --L-- M"}, 0, audit.Ends},
		{[]string{"1234 12 R --LVB M"}, 0, audit.Ends},
		{[]string{"1234 12 W --L-B M"}, 0, audit.Ends},
		{[]string{"FFFC 12 R -SL-- M"}, 0, audit.Ends},
		{[]string{"FFFC 12 R -SLV- M"}, 1, audit.Fine},
		// What follows a cycle whose next one doesn't use the bus.
		{[]string{next, idle}, 2, audit.Fine},
		{[]string{next, reset}, 2, audit.Fine},
		{[]string{next, "FFFE 12 R -S-V- M"}, 1, audit.Goes},
		{[]string{next, "FFFF 12 R -S-V- M"}, 2, audit.Fine},
		{[]string{next, "FFFD 12 R ---V- M"}, 1, audit.Goes},
		{[]string{next, op}, 1, audit.Goes},
		{[]string{next, "FFFF 12 W ---V- M"}, 1, audit.Goes},
		{[]string{next, "FFFE 12 W ---V- M"}, 1, audit.Goes},
		{[]string{next, store}, 1, audit.Goes},
		{[]string{next, waits}, 2, audit.Fine},
		{[]string{waits, op}, 1, audit.Goes},
		{[]string{next, dead, granted, halted, op}, 4, audit.Goes},
		{[]string{next, dead, granted, halted, idle, op}, 6, audit.Fine},
		{[]string{op, next, quiet, quiet, idle, op, op, next, op, op}, 8, audit.Goes},
		{[]string{dead, op}, 2, audit.Fine},
		// Several at once: the first one named.
		{[]string{"FFFF 01 W ASLVB M"}, 0, audit.Waits},
		{[]string{"0000 12 W -SL-B M"}, 0, audit.Vectors},
		{[]string{next, "0000 12 W --L-- M"}, 1, audit.Ends},
		{[]string{next, "0000 12 W -S--- M"}, 1, audit.Vectors},
		{[]string{next, "0000 12 W A---- M"}, 1, audit.Waits},
		{[]string{next, "0000 12 W A---- -"}, 1, audit.Stands},
		// The first place.
		{[]string{"1234 12 R --L-- M", "FFFF 00 R ---V- -"}, 0, audit.Ends},
	} {
		at, wrong := audit.Check(trace(t, c.l...)...)
		if at != c.at || wrong != c.wrong {
			t.Errorf("%q: %d, %d, not %d, %d", c.l, at, wrong, c.at, c.wrong)
		}
	}
}

// anyRec: a record, of which many are nearly fine.
func anyRec(r *rand.Rand) api.Rec {
	on := func() bool { return r.Intn(2) > 0 }
	few := func() bool { return r.Intn(5) == 0 }
	if r.Intn(3) == 0 {
		return api.Rec{Addr: 0xFFFF, Read: !few(), BA: on(), BS: on(), LIC: few(), AVMA: few(), BUSY: few(), Mine: few()}
	}
	at := []uint16{0, 0x1234, 0xFFF1, 0xFFF2, 0xFFFD, 0xFFFE, 0xFFFF}[r.Intn(7)]
	return api.Rec{Addr: at, Data: byte(r.Intn(2)), Read: on(), BA: few(), BS: few(), LIC: few(), AVMA: on(), BUSY: few(), Mine: !few()}
}

// faults: what is wrong with a record of a trace, in the order of the chapter.
func faults(l []api.Rec, at int) []int {
	r := l[at]
	noise := r.Addr != 0xFFFF || r.Data != 0 || !r.Read || r.AVMA || r.BUSY
	var out []int
	add := func(wrong int, so bool) {
		if so {
			out = append(out, wrong)
		}
	}
	if !r.Mine {
		add(1, noise)
		add(1, r.BA && !r.BS || r.BS && !r.BA)
		add(1, r.LIC && !r.BA)
		return out
	}
	add(2, r.BA && noise)
	add(2, r.BA && r.BS)
	add(2, r.BA && r.LIC)
	add(3, r.BS && !r.Read)
	add(3, r.BS && r.Addr < 0xFFF2)
	add(5, r.LIC && !r.AVMA)
	add(5, r.LIC && r.BUSY)
	for i := at - 1; i >= 0; i-- {
		if l[i].Mine {
			add(6, !l[i].AVMA && !r.Read)
			add(6, !l[i].AVMA && r.Addr != 0xFFFF && (r.Addr != 0xFFFE || r.BS))
			break
		}
	}
	return out
}

func TestP55_1Any(t *testing.T) {
	r := rand.New(rand.NewSource(551))
	seen := map[int]int{}
	for range 60000 {
		l := make([]api.Rec, r.Intn(5))
		for i := range l {
			l[i] = anyRec(r)
		}
		at, wrong := len(l), 0
		for i := range l {
			if f := faults(l, i); len(f) > 0 {
				at, wrong = i, f[0]
				break
			}
		}
		kept := slices.Clone(l)
		gotAt, got := audit.Check(l...)
		if gotAt != at || got != wrong {
			t.Fatalf("%s: %d, %d, not %d, %d", record.Lines(l...), gotAt, got, at, wrong)
		}
		if !slices.Equal(l, kept) {
			t.Fatal("what came in is another one")
		}
		seen[wrong]++
	}
	for _, wrong := range []int{0, 1, 2, 3, 5, 6} {
		if seen[wrong] < 100 {
			t.Errorf("of %d there are %d", wrong, seen[wrong])
		}
	}
	if seen[audit.Writes] > 0 {
		t.Error("Writes is told of none")
	}
}

// All records one behind an own one that used the bus, or didn't.
func TestP55_1AllLevels(t *testing.T) {
	for _, ahead := range trace(t, op, next, granted) {
		for n := range 128 {
			for _, at := range []uint16{0, 0xFFF1, 0xFFF2, 0xFFFD, 0xFFFE, 0xFFFF} {
				for data := range 2 {
					on := func(bit int) bool { return n>>bit&1 > 0 }
					x := api.Rec{Addr: at, Data: byte(data), Read: on(0), BA: on(1), BS: on(2), LIC: on(3), AVMA: on(4), BUSY: on(5), Mine: on(6)}
					l := []api.Rec{ahead, x}
					where, wrong := 2, 0
					if f := faults(l, 1); len(f) > 0 {
						where, wrong = 1, f[0]
					}
					if gotAt, got := audit.Check(l...); gotAt != where || got != wrong {
						t.Fatalf("%s: %d, %d, not %d, %d", record.Lines(l...), gotAt, got, where, wrong)
					}
				}
			}
		}
	}
}

func TestP55_2(t *testing.T) {
	for _, c := range []struct {
		l    []string
		want [4]int
	}{
		{nil, [4]int{}},
		{[]string{op}, [4]int{1, 0, 0, 0}},
		{[]string{granted}, [4]int{0, 1, 0, 0}},
		{[]string{halted}, [4]int{0, 0, 1, 0}},
		{[]string{dead}, [4]int{0, 0, 0, 1}},
		{[]string{waits, store, vector, reset}, [4]int{4, 0, 0, 0}},
		{[]string{op, dead, granted, granted, halted, dead, granted, store, halted, op, idle, granted}, [4]int{4, 4, 2, 2}},
		// Also of such as no machine tells.
		{[]string{"FFFF 00 R --L-- -", "FFFF 00 R A---- -", "FFFF 00 R -S--- -", "0000 11 W ---VB -"}, [4]int{0, 1, 1, 2}},
	} {
		if got := audit.Tally(trace(t, c.l...)...); got != c.want {
			t.Errorf("%q: %v, not %v", c.l, got, c.want)
		}
	}
	r := rand.New(rand.NewSource(552))
	for range 1000 {
		l := make([]api.Rec, r.Intn(30))
		var want [4]int
		for i := range l {
			l[i] = anyRec(r)
			kind := 3
			if l[i].BA && !l[i].LIC {
				kind = 1
			}
			if l[i].LIC {
				kind = 2
			}
			if l[i].Mine {
				kind = 0
			}
			want[kind]++
		}
		kept := slices.Clone(l)
		if got := audit.Tally(l...); got != want || !slices.Equal(l, kept) {
			t.Fatalf("%s: %v, not %v", record.Lines(l...), got, want)
		}
	}
}

// anyScript: pins of so many cycles, that stay as they are for a while.
func anyScript(r *rand.Rand, many int) []api.Pins {
	out := make([]api.Pins, many)
	var p api.Pins
	for i := range out {
		turn := func(was bool, on, off int) bool {
			if was {
				return r.Intn(off) > 0
			}
			return r.Intn(on) == 0
		}
		p = api.Pins{Reset: turn(p.Reset, 300, 3), Nmi: turn(p.Nmi, 50, 5), Firq: turn(p.Firq, 90, 20), Irq: turn(p.Irq, 60, 20), Halt: turn(p.Halt, 40, 10), Req: turn(p.Req, 40, 20)}
		out[i] = p
	}
	return out
}

func TestP55_3(t *testing.T) {
	r := rand.New(rand.NewSource(553))
	var all [4]int
	for n := range 150 {
		image := make([]byte, 65536)
		r.Read(image)
		for range 8000 {
			copy(image[r.Intn(65530):], [][]byte{{0x13}, {0x3C, 0xAF}, {0x10, 0xCE, 0x40, 0}, {0x3F}}[r.Intn(4)])
		}
		w := func() uint16 { return uint16(r.Intn(65536)) }
		s := cpu.State{Regs: api.Regs{CC: byte(r.Intn(256)), DP: byte(r.Intn(256)), X: w(), Y: w(), U: w(), S: w(), PC: w()}, Latch: edge.Latch{Armed: r.Intn(2) > 0}}
		m, e := machine.Restore(api.Config{Kind: n % 2, Rom: r.Intn(65537)}, s, image)
		if e != api.OK {
			t.Fatal(e)
		}
		l := m.Run(anyScript(r, 3000)...)
		// Also of a trace that begins, or ends, within a row.
		from := r.Intn(len(l))
		for _, l := range [][]api.Rec{l, l[from:], l[:from]} {
			if at, wrong := audit.Check(l...); at != len(l) || wrong != audit.Fine {
				t.Fatalf("%d, %d: %s", at, wrong, record.Lines(l[max(0, at-3):at+1]...))
			}
		}
		for i, many := range audit.Tally(l...) {
			all[i] += many
		}
	}
	for i, many := range all {
		if many < 1000 {
			t.Errorf("of the kind %d there are %d", i, many)
		}
	}
}

func TestP1P2Again(t *testing.T) {
	l := trace(t, next, dead, op)
	for range 3 {
		if at, wrong := audit.Check(l...); at != 2 || wrong != audit.Goes {
			t.Errorf("%d, %d", at, wrong)
		}
		if at, wrong := audit.Check(l[2:]...); at != 1 || wrong != audit.Fine {
			t.Errorf("%d, %d", at, wrong)
		}
		if at, wrong := audit.Check(); at != 0 || wrong != audit.Fine {
			t.Errorf("%d, %d", at, wrong)
		}
	}
}
