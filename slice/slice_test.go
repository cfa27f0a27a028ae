package slice_test

import (
	"math/rand"
	"slices"
	"strings"
	"testing"

	"spinet/api"
	"spinet/cpu"
	"spinet/inst"
	"spinet/machine"
	"spinet/slice"
	"spinet/table"
)

// trace: the records of letters: o an own one, e an own one with LIC, g a granted one, h a halted one, d a dead one. They are told apart by their addresses.
func trace(s string) []api.Rec {
	out := make([]api.Rec, 0, len(s))
	for i, c := range s {
		out = append(out, map[rune]api.Rec{
			'o': {Mine: true, Read: true, AVMA: true},
			'e': {Mine: true, Read: true, AVMA: true, LIC: true},
			'g': {Read: true, BA: true, BS: true},
			'h': {Read: true, BA: true, BS: true, LIC: true},
			'd': {Read: true},
		}[c])
		out[i].Addr = uint16(i)
	}
	return out
}

// cut: what Cut must make of such letters: behind each e.
func cut(s string) []slice.Part {
	var out []slice.Part
	all := trace(s)
	for piece := range strings.SplitAfterSeq(s, "e") {
		if piece != "" {
			out = append(out, slice.Part{Recs: all[:len(piece)], Ended: strings.HasSuffix(piece, "e")})
			all = all[len(piece):]
		}
	}
	return out
}

// same: are parts alike? No records are as none.
func same(a, b []slice.Part) bool {
	return slices.EqualFunc(a, b, func(x, y slice.Part) bool { return x.Ended == y.Ended && slices.Equal(x.Recs, y.Recs) })
}

func TestP48_1Known(t *testing.T) {
	for s, want := range map[string][]string{
		"":         nil,
		"e":        {"e"},
		"o":        {"o"},
		"oe":       {"oe"},
		"eo":       {"e", "o"},
		"ee":       {"e", "e"},
		"h":        {"h"},
		"oheghoeg": {"ohe", "ghoe", "g"},
		"gdhhhde":  {"gdhhhde"},
	} {
		got := slice.Cut(trace(s)...)
		if len(got) != len(want) {
			t.Errorf("%q: %d parts, not %d", s, len(got), len(want))
			continue
		}
		at := 0
		for i, w := range want {
			ended := w[len(w)-1] == 'e'
			if p := got[i]; p.Ended != ended || !slices.Equal(p.Recs, trace(s)[at:at+len(w)]) {
				t.Errorf("%q: the part %d is %+v", s, i, p)
			}
			at += len(w)
		}
	}
	if len(slice.Cut()) != 0 || len(slice.Cut([]api.Rec{}...)) != 0 {
		t.Error("parts of no records")
	}
}

func TestP48_1Any(t *testing.T) {
	r := rand.New(rand.NewSource(481))
	for range 3000 {
		var s strings.Builder
		for range r.Intn(60) {
			s.WriteByte("oooeghd"[r.Intn(7)])
		}
		if got, want := slice.Cut(trace(s.String())...), cut(s.String()); !same(got, want) {
			t.Fatalf("%s: %v, not %v", s.String(), got, want)
		}
	}
}

// Mine and LIC alone count, whatever else is on.
func TestP48_1AllLevels(t *testing.T) {
	for n := range 128 {
		x := anyLevels(n)
		got := slice.Cut(x, x)
		want := []slice.Part{{Recs: []api.Rec{x, x}}}
		if x.Mine && x.LIC {
			want = []slice.Part{{Recs: []api.Rec{x}, Ended: true}, {Recs: []api.Rec{x}, Ended: true}}
		}
		if !same(got, want) {
			t.Errorf("%+v: %v", x, got)
		}
	}
}

// anyLevels: a record with the levels of a number's bits.
func anyLevels(n int) api.Rec {
	on := func(bit int) bool { return n>>bit&1 > 0 }
	return api.Rec{Addr: 0x1234, Data: 0x56, Read: on(0), BA: on(1), BS: on(2), LIC: on(3), AVMA: on(4), BUSY: on(5), Mine: on(6)}
}

// Parts are new memory, and none shares some with another one.
func TestP48_1NewMemory(t *testing.T) {
	given := trace("oeoheog")
	before := slices.Clone(given)
	got := slice.Cut(given...)
	if !slices.Equal(given, before) {
		t.Error("what came in is another one")
	}
	want := cut("oeoheog")
	clear(given)
	if !same(got, want) {
		t.Error("parts change with what came in")
	}
	for i := range got {
		for j := range got {
			one := slice.Cut(before...)
			_ = append(one[i].Recs, api.Rec{Addr: 99})
			clear(one[i].Recs)
			if j != i && !slices.Equal(one[j].Recs, want[j].Recs) {
				t.Errorf("the part %d changes with the part %d", j, i)
			}
		}
	}
	if !slices.Equal(before, trace("oeoheog")) {
		t.Error("what came in changes with parts")
	}
}

func TestP48_2Counts(t *testing.T) {
	for s, want := range map[string][2]int{
		"": {0, 0}, "o": {1, 0}, "e": {1, 0}, "g": {0, 1}, "h": {0, 1}, "d": {0, 1},
		"oooe": {4, 0}, "gdh": {0, 3}, "oghoe": {3, 2},
	} {
		for _, ended := range []bool{false, true} {
			p := slice.Part{Recs: trace(s), Ended: ended}
			if p.Own() != want[0] || p.Lost() != want[1] {
				t.Errorf("%q: %d, %d, not %v", s, p.Own(), p.Lost(), want)
			}
		}
	}
}

func TestP48_2Start(t *testing.T) {
	for s, want := range map[string]int{"": -1, "g": -1, "gdh": -1, "o": 0, "e": 0, "gdho": 3, "hoe": 1, "gedo": 1} {
		got, ok := slice.Part{Recs: trace(s)}.Start()
		if ok != (want >= 0) || int(got) != max(want, 0) {
			t.Errorf("%q: %d, %v, not %d", s, got, ok, want)
		}
	}
	// An address 0 is one, too.
	if at, ok := (slice.Part{Recs: []api.Rec{{Addr: 7}, {Mine: true}, {Addr: 8, Mine: true}}}).Start(); at != 0 || !ok {
		t.Errorf("%d, %v", at, ok)
	}
}

func TestP48_2Vector(t *testing.T) {
	vector := api.Rec{Addr: 0xFFFC, Read: true, BS: true, Mine: true}
	next := api.Rec{Addr: 0xFFFD, Read: true, BS: true, Mine: true}
	granted := api.Rec{Addr: 0xFFFF, Read: true, BA: true, BS: true}
	for _, c := range []struct {
		recs []api.Rec
		at   uint16
		ok   bool
	}{
		{nil, 0, false},
		{[]api.Rec{granted}, 0, false},
		{[]api.Rec{{Addr: 5, Mine: true, Read: true}}, 0, false},
		{[]api.Rec{vector}, 0xFFFC, true},
		{[]api.Rec{granted, {Addr: 5, Mine: true}, next, vector}, 0xFFFD, true},
		{[]api.Rec{vector, next, granted}, 0xFFFC, true},
		{[]api.Rec{{BS: true, Addr: 9}, {BS: true, BA: true, Mine: true, Addr: 8}, {BA: true, Mine: true, Addr: 7}}, 0, false},
		{[]api.Rec{{BS: true, BA: true, Mine: true, Addr: 8}, {BS: true, Mine: true, Addr: 0}}, 0, true},
	} {
		if at, ok := (slice.Part{Recs: c.recs}).Vector(); at != c.at || ok != c.ok {
			t.Errorf("%+v: %X, %v, not %X, %v", c.recs, at, ok, c.at, c.ok)
		}
	}
	for n := range 128 {
		x := anyLevels(n)
		at, ok := slice.Part{Recs: []api.Rec{x}}.Vector()
		if want := x.Mine && x.BS && !x.BA; ok != want || at != map[bool]uint16{true: 0x1234}[want] {
			t.Errorf("%+v: %X, %v", x, at, ok)
		}
	}
}

func TestP48_2Writes(t *testing.T) {
	var all, want []api.Rec
	for n := range 128 {
		x := anyLevels(n)
		x.Addr = uint16(n)
		all = append(all, x)
		if x.Mine && !x.Read {
			want = append(want, x)
		}
	}
	p := slice.Part{Recs: all}
	got := p.Writes()
	if len(want) != 32 || !slices.Equal(got, want) {
		t.Errorf("%v, not %v", got, want)
	}
	clear(got)
	if !slices.Equal(p.Writes(), want) {
		t.Error("a part changes with its Writes")
	}
	if got := (slice.Part{Recs: trace("oegh")}).Writes(); len(got) != 0 {
		t.Errorf("%v", got)
	}
	if got := (slice.Part{}).Writes(); len(got) != 0 {
		t.Errorf("%v", got)
	}
}

func TestP48_2Text(t *testing.T) {
	recs := []api.Rec{
		{Addr: 0xFFFE, Data: 0x12, Read: true, BS: true, AVMA: true, BUSY: true, Mine: true},
		{Addr: 0xFFFF, Read: true, BA: true, BS: true},
		{Addr: 0x0100, Data: 0x05, LIC: true, AVMA: true, Mine: true},
	}
	lines := "FFFE 12 R -S-VB M\nFFFF 00 R AS--- -\n0100 05 W --LV- M\n"
	for _, c := range []struct {
		p    slice.Part
		want string
	}{
		{slice.Part{}, ""},
		{slice.Part{Ended: true}, "-\n"},
		{slice.Part{Recs: recs}, lines},
		{slice.Part{Recs: recs, Ended: true}, lines + "-\n"},
		{slice.Part{Recs: recs[:1], Ended: true}, lines[:18] + "-\n"},
	} {
		if got := c.p.Text(); got != c.want {
			t.Errorf("%+v: %q, not %q", c.p, got, c.want)
		}
	}
}

// row: the records of the row that begins where a machine is.
func row(m *machine.Machine) []api.Rec {
	var out []api.Rec
	for {
		x := m.Cycle(api.Pins{})
		out = append(out, x)
		if m.Mode() != api.InRow {
			return out
		}
	}
}

func TestP48_3OwnAsTable(t *testing.T) {
	r := rand.New(rand.NewSource(483))
	m, _ := machine.New(api.Config{Rom: 65536}, nil)
	for page := range 3 {
		for code := range 256 {
			for range 6 {
				b := []byte{0x12, byte(code), byte(r.Intn(256)), byte(r.Intn(256)), byte(r.Intn(256))}
				switch page {
				case 0:
					b = b[1:]
				default:
					b[0] = byte(0x0F + page)
				}
				regs := api.Regs{A: byte(r.Intn(256)), CC: byte(r.Intn(256)), X: 0x5000, Y: 0x6000, U: 0x7000, S: 0x4000, PC: 0x1000}
				next, e := machine.Restore(m.Config(), cpu.State{Regs: regs}, nil)
				if e != api.OK {
					t.Fatal(e)
				}
				next.Ram().Load(0x1000, b...)
				pulled := byte(r.Intn(256))
				next.Ram().Poke(0x4000, pulled)
				i, _ := inst.Of(append(b, 0, 0, 0, 0)...)
				parts := slice.Cut(row(next)...)
				if len(parts) != 1 || parts[0].Own() != table.Of(i, regs.CC, pulled) || parts[0].Lost() != 0 {
					t.Fatalf("%X: %+v, not %d", b, parts, table.Of(i, regs.CC, pulled))
				}
				waits := i.Entry.Op == api.OpSync || i.Entry.Op == api.OpCwai
				if at, ok := parts[0].Start(); at != 0x1000 || !ok || parts[0].Ended == waits {
					t.Fatalf("%X: %X, %v, %v", b, at, ok, parts[0].Ended)
				}
			}
		}
	}
}

// Rows one behind the other, and cycles that are lost between, and at their begin.
func TestP48_3Trace(t *testing.T) {
	ahead := cpu.State{Regs: api.Regs{S: 0x4000}}
	m, _ := machine.Restore(api.Config{Rom: 65536}, ahead, []byte{0x86, 0x05, 0xB7, 0x01, 0x00, 0x3F})
	m.Ram().Load(0xFFFA, 0x12, 0x34)
	q, h := api.Pins{Req: true}, api.Pins{Halt: true}
	script := []api.Pins{h, {}, q, {}, h, h, {}, {}, {}, {}, {}}
	for range 19 {
		script = append(script, api.Pins{})
	}
	script = append(script, h, api.Pins{})
	parts := slice.Cut(m.Run(script...)...)
	want := []struct {
		own, lost     int
		start, vector int
		writes        int
		ended         bool
	}{
		{2, 2, 0, -1, 0, true}, {5, 2, 2, -1, 1, true}, {19, 0, 5, 0xFFFA, 12, true}, {1, 1, 0x1234, -1, 0, false},
	}
	if len(parts) != len(want) {
		t.Fatalf("%+v", parts)
	}
	for i, w := range want {
		p := parts[i]
		start, _ := p.Start()
		vector, ok := p.Vector()
		if p.Own() != w.own || p.Lost() != w.lost || int(start) != w.start || ok != (w.vector >= 0) || int(vector) != max(w.vector, 0) || len(p.Writes()) != w.writes || p.Ended != w.ended {
			t.Errorf("the part %d: %+v", i, p)
		}
	}
	if w := parts[1].Writes()[0]; w.Addr != 0x0100 || w.Data != 5 {
		t.Errorf("%+v", w)
	}
}

// The zero Part has nothing.
func TestP1Zero(t *testing.T) {
	var p slice.Part
	start, own := p.Start()
	vector, reads := p.Vector()
	if p.Own() != 0 || p.Lost() != 0 || start != 0 || own || vector != 0 || reads || len(p.Writes()) != 0 || p.Text() != "" {
		t.Error("the zero Part has something")
	}
}

// Nothing is kept from call to call, and a part stays as it is.
func TestP2Again(t *testing.T) {
	p := slice.Part{Recs: trace("goheo"), Ended: true}
	before := slices.Clone(p.Recs)
	for range 2 {
		at, ok := p.Start()
		if p.Own() != 3 || p.Lost() != 2 || at != 1 || !ok || len(slice.Cut(p.Recs...)) != 2 || p.Text() != p.Text() {
			t.Error("another answer")
		}
	}
	if !slices.Equal(p.Recs, before) {
		t.Error("a part is another one")
	}
}
