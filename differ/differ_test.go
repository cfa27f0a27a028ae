package differ_test

import (
	"math"
	"math/rand"
	"slices"
	"strconv"
	"strings"
	"testing"

	"spinet/api"
	"spinet/differ"
	"spinet/machine"
	"spinet/record"
)

// names are those of a record's fields, in the order of the chapter.
var names = []string{"ADDR", "DATA", "READ", "BA", "BS", "LIC", "AVMA", "BUSY", "MINE"}

// with: a record in which the fields of a number's bits are others.
func with(r api.Rec, n int) api.Rec {
	on := func(bit int) bool { return n>>bit&1 > 0 }
	if on(0) {
		r.Addr ^= 0x8001
	}
	if on(1) {
		r.Data ^= 0x81
	}
	for i, level := range []*bool{&r.Read, &r.BA, &r.BS, &r.LIC, &r.AVMA, &r.BUSY, &r.Mine} {
		*level = *level != on(2+i)
	}
	return r
}

// anyTrace: records, few of which are others than those of the same place in another one.
func anyTrace(r *rand.Rand) []api.Rec {
	out := make([]api.Rec, r.Intn(12))
	for i := range out {
		out[i] = api.Rec{Addr: uint16(i), Read: true, Mine: i%3 > 0}
		if r.Intn(4) == 0 {
			out[i] = with(out[i], r.Intn(512))
		}
	}
	return out
}

// places: those at which two traces differ, by the records' texts.
func places(a, b []api.Rec) []int {
	x, y := strings.SplitAfter(record.Lines(a...), "\n"), strings.SplitAfter(record.Lines(b...), "\n")
	x, y = x[:len(a)], y[:len(b)]
	var out []int
	for i := 0; i < len(x) || i < len(y); i++ {
		if i >= len(x) || i >= len(y) || x[i] != y[i] {
			out = append(out, i)
		}
	}
	return out
}

func TestP51_1Known(t *testing.T) {
	one, two := api.Rec{Addr: 1}, api.Rec{Addr: 2}
	for _, c := range []struct {
		a, b         []api.Rec
		first, count int
	}{
		{nil, nil, -1, 0},
		{nil, []api.Rec{}, -1, 0},
		{nil, []api.Rec{{}}, 0, 1},
		{[]api.Rec{{}, {}}, nil, 0, 2},
		{[]api.Rec{one}, []api.Rec{one}, -1, 0},
		{[]api.Rec{one}, []api.Rec{two}, 0, 1},
		{[]api.Rec{one, two}, []api.Rec{one}, 1, 1},
		{[]api.Rec{one}, []api.Rec{one, two, two}, 1, 2},
		{[]api.Rec{one, two, one}, []api.Rec{one, one, one}, 1, 1},
		{[]api.Rec{one, two, one}, []api.Rec{two, two, two}, 0, 2},
		{[]api.Rec{two, two}, []api.Rec{one, two, one, two}, 0, 3},
	} {
		if first, count := differ.First(c.a, c.b), differ.Count(c.a, c.b); first != c.first || count != c.count {
			t.Errorf("%v, %v: %d, %d, not %d, %d", c.a, c.b, first, count, c.first, c.count)
		}
		if first, count := differ.First(c.b, c.a), differ.Count(c.b, c.a); first != c.first || count != c.count {
			t.Errorf("%v, %v: %d, %d, not %d, %d", c.b, c.a, first, count, c.first, c.count)
		}
	}
}

func TestP51_1Any(t *testing.T) {
	r := rand.New(rand.NewSource(511))
	for range 3000 {
		a, b := anyTrace(r), anyTrace(r)
		keptA, keptB := slices.Clone(a), slices.Clone(b)
		want := places(a, b)
		first := -1
		if len(want) > 0 {
			first = want[0]
		}
		if got := differ.First(a, b); got != first {
			t.Fatalf("%v, %v: First %d, not %d", a, b, got, first)
		}
		if got := differ.Count(a, b); got != len(want) {
			t.Fatalf("%v, %v: Count %d, not %d", a, b, got, len(want))
		}
		if differ.First(a, a) != -1 || differ.Count(b, b) != 0 {
			t.Fatal("a trace differs from itself")
		}
		if !slices.Equal(a, keptA) || !slices.Equal(b, keptB) {
			t.Fatal("what came in is another one")
		}
	}
}

func TestP51_1Own(t *testing.T) {
	var all, want []api.Rec
	for n := range 512 {
		r := with(api.Rec{Addr: uint16(n)}, n&^1)
		all = append(all, r)
		if n>>8&1 > 0 {
			want = append(want, r)
		}
	}
	kept := slices.Clone(all)
	got := differ.Own(all...)
	if !slices.Equal(got, want) {
		t.Errorf("%v, not %v", got, want)
	}
	clear(got)
	if !slices.Equal(all, kept) {
		t.Error("what came in is another one")
	}
	// All own records are new memory, too.
	got = differ.Own(want...)
	kept = slices.Clone(want)
	if !slices.Equal(got, want) {
		t.Errorf("%v, not %v", got, want)
	}
	if clear(got); !slices.Equal(want, kept) {
		t.Error("what is answered is what came in")
	}
	if len(differ.Own()) != 0 || len(differ.Own(api.Rec{LIC: true, AVMA: true})) != 0 {
		t.Error("records that aren't own ones")
	}
}

func TestP51_2Fields(t *testing.T) {
	for _, r := range []api.Rec{{}, with(api.Rec{}, 511), {Addr: 0xFFFF, Data: 0xFF, Read: true, LIC: true, Mine: true}} {
		for n := range 512 {
			var want []string
			for i, name := range names {
				if n>>i&1 > 0 {
					want = append(want, name)
				}
			}
			if got := differ.Fields(r, with(r, n)); got != strings.Join(want, " ") {
				t.Errorf("%+v, %+v: %q, not %q", r, with(r, n), got, want)
			}
		}
	}
	if got := differ.Fields(api.Rec{Addr: 0x0100}, api.Rec{Addr: 0x0200}); got != "ADDR" {
		t.Error(got)
	}
}

func TestP51_2ReportKnown(t *testing.T) {
	a := []api.Rec{
		{Addr: 0xFFFE, Data: 0x12, Read: true, BS: true, AVMA: true, BUSY: true, Mine: true},
		{Addr: 0x0001, Read: true},
		{Addr: 0x0100, Data: 0x05, AVMA: true, LIC: true, Mine: true},
		{Addr: 0x1234, Data: 0xAB, Read: true, BA: true},
	}
	b := []api.Rec{
		{Addr: 0xFFFE, Data: 0x13, Read: true, BS: true, AVMA: true, Mine: true},
		{Addr: 0x0001, Read: true},
		{},
	}
	both := "0: FFFE 12 R -S-VB M / FFFE 13 R -S-V- M DATA BUSY\n" +
		"2: 0100 05 W --LV- M / 0000 00 W ----- - ADDR DATA LIC AVMA MINE\n"
	for most, want := range map[int]string{
		math.MinInt: "", -1: "", 0: "",
		1:           "0: FFFE 12 R -S-VB M / FFFE 13 R -S-V- M DATA BUSY\n",
		2:           both,
		3:           both + "3: 1234 AB R A---- - / -\n",
		4:           both + "3: 1234 AB R A---- - / -\n",
		math.MaxInt: both + "3: 1234 AB R A---- - / -\n",
	} {
		if got := differ.Report(most, a, b); got != want {
			t.Errorf("%d: %q, not %q", most, got, want)
		}
	}
	want := "2: - / 0100 05 W --LV- M\n3: - / 1234 AB R A---- -\n"
	if got := differ.Report(9, a[:2], a); got != want {
		t.Errorf("%q, not %q", got, want)
	}
	if got := differ.Report(9, a, a); got != "" {
		t.Errorf("%q", got)
	}
	if got := differ.Report(9, nil, nil); got != "" {
		t.Errorf("%q", got)
	}
}

// report: Report, by the records' own texts.
func report(most int, a, b []api.Rec) string {
	text := func(l []api.Rec, i int) string {
		if i < len(l) {
			return record.Text(l[i])
		}
		return "-"
	}
	out := ""
	for n, i := range places(a, b) {
		if n >= most {
			break
		}
		out += strconv.Itoa(i) + ": " + text(a, i) + " / " + text(b, i)
		if i < len(a) && i < len(b) {
			out += " " + differ.Fields(a[i], b[i])
		}
		out += "\n"
	}
	return out
}

func TestP51_2ReportAny(t *testing.T) {
	r := rand.New(rand.NewSource(512))
	for range 3000 {
		a, b := anyTrace(r), anyTrace(r)
		most := r.Intn(16) - 2
		if got, want := differ.Report(most, a, b), report(most, a, b); got != want {
			t.Fatalf("%q, not %q", got, want)
		}
	}
	// Places of more than one digit.
	a := make([]api.Rec, 1234)
	if got := differ.Report(1, a, append(slices.Clone(a), api.Rec{})); got != "1234: - / 0000 00 W ----- -\n" {
		t.Error(got)
	}
}

// Traces of two machines one of which stands for a while have the same own records.
func TestP51_1Machines(t *testing.T) {
	m, _ := machine.New(api.Config{Rom: 65536}, []byte{0x86, 0x05, 0xB7, 0x01, 0x00})
	other := m.Copy()
	a := m.Run(make([]api.Pins, 7)...)
	b := other.Run(append([]api.Pins{{}, {Req: true}, {Req: true}}, make([]api.Pins, 6)...)...)
	if first := differ.First(a, b); first != 1 {
		t.Errorf("First %d", first)
	}
	if first := differ.First(differ.Own(a...), differ.Own(b...)); first != -1 {
		t.Errorf("of the own records %d", first)
	}
}

func TestP2Again(t *testing.T) {
	a, b := []api.Rec{{Addr: 1}, {Data: 2}}, []api.Rec{{Addr: 1}, {Data: 3}, {Mine: true}}
	for range 3 {
		if differ.First(a, b) != 1 || differ.Count(a, b) != 2 || len(differ.Own(b...)) != 1 {
			t.Error("another answer")
		}
	}
}
