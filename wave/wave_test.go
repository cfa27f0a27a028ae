package wave_test

import (
	"math"
	"math/rand"
	"slices"
	"strings"
	"testing"

	"spinet/api"
	"spinet/wave"
)

// levels: a record with the levels of a number's bits, in the order of the Names.
func levels(n int) api.Rec {
	on := func(bit int) bool { return n>>bit&1 > 0 }
	return api.Rec{Read: on(0), BA: on(1), BS: on(2), LIC: on(3), AVMA: on(4), BUSY: on(5), Mine: on(6)}
}

// trace: records of numbers' bits.
func trace(l ...int) []api.Rec {
	out := make([]api.Rec, 0, len(l))
	for _, n := range l {
		out = append(out, levels(n))
	}
	return out
}

// others are numbers that are no line's.
var others = []int{math.MinInt, -1 << 32, -8, -7, -1, 7, 8, 255, 256, 1 << 32, 1<<32 + 1, math.MaxInt}

func TestP50_1Names(t *testing.T) {
	if wave.Names != "READ BA BS LIC AVMA BUSY MINE" {
		t.Error(wave.Names)
	}
}

func TestP50_1Line(t *testing.T) {
	if got := wave.Line(0, api.Rec{Read: true}, api.Rec{}); got != "#_" {
		t.Error(got)
	}
	var all []int
	want := make([]string, 7)
	for n := range 128 {
		all = append(all, n)
		for line := range want {
			want[line] += []string{"_", "#"}[n>>line&1]
		}
	}
	l := trace(all...)
	for i := range l {
		l[i].Addr, l[i].Data = uint16(i*999), byte(i)
	}
	kept := slices.Clone(l)
	for line, w := range want {
		if got := wave.Line(line, l...); got != w {
			t.Errorf("the line %d: %s, not %s", line, got, w)
		}
		if got := wave.Line(line); got != "" {
			t.Errorf("the line %d of no records: %q", line, got)
		}
	}
	for _, line := range others {
		if got := wave.Line(line, l...); got != "" {
			t.Errorf("the line %d: %q", line, got)
		}
	}
	if !slices.Equal(l, kept) {
		t.Error("what came in is another one")
	}
}

func TestP50_1Text(t *testing.T) {
	for _, c := range []struct {
		l    []api.Rec
		want []string
	}{
		{nil, []string{"READ ", "BA   ", "BS   ", "LIC  ", "AVMA ", "BUSY ", "MINE "}},
		{[]api.Rec{{Addr: 5, Data: 6}}, []string{"READ _", "BA   _", "BS   _", "LIC  _", "AVMA _", "BUSY _", "MINE _"}},
		{
			[]api.Rec{
				{Addr: 0xFFFE, Read: true, AVMA: true, Mine: true},
				{Addr: 0xFFFE, Read: true, BS: true, AVMA: true, BUSY: true, Mine: true},
				{Addr: 0xFFFF, Read: true, BA: true, BS: true, LIC: true},
				{Addr: 0x0100, Data: 9, LIC: true, AVMA: true, Mine: true},
			},
			[]string{"READ ###_", "BA   __#_", "BS   _##_", "LIC  __##", "AVMA ##_#", "BUSY _#__", "MINE ##_#"},
		},
	} {
		want := strings.Join(c.want, "\n") + "\n"
		if got := wave.Text(c.l...); got != want {
			t.Errorf("%+v:\n%snot\n%s", c.l, got, want)
		}
		l, e := wave.Read(want)
		if e != api.OK || !slices.Equal(l, bare(c.l)) {
			t.Errorf("%s: %+v, %v", want, l, e)
		}
	}
}

// bare: records without addresses and bytes.
func bare(l []api.Rec) []api.Rec {
	out := slices.Clone(l)
	for i := range out {
		out[i].Addr, out[i].Data = 0, 0
	}
	return out
}

func TestP50_1Read(t *testing.T) {
	r := rand.New(rand.NewSource(501))
	for n := range 300 {
		l := make([]api.Rec, n)
		for i := range l {
			l[i] = levels(r.Intn(128))
			l[i].Addr, l[i].Data = uint16(r.Intn(65536)), byte(r.Intn(256))
		}
		s := wave.Text(l...)
		got, e := wave.Read(s)
		if e != api.OK || !slices.Equal(got, bare(l)) {
			t.Fatalf("%s: %v", s, e)
		}
		if again := wave.Text(got...); again != s {
			t.Fatalf("%s, not %s", again, s)
		}
	}
}

// wrong: is it no text of records? By hand: seven lines, each one a name and as many signs.
func wrong(s string) bool {
	lines := strings.Split(s, "\n")
	if len(lines) != 8 || lines[7] != "" {
		return true
	}
	for i, name := range []string{"READ ", "BA   ", "BS   ", "LIC  ", "AVMA ", "BUSY ", "MINE "} {
		signs, ok := strings.CutPrefix(lines[i], name)
		if !ok || len(lines[i]) != len(lines[0]) || strings.Trim(signs, "_#") != "" {
			return true
		}
	}
	return false
}

// checkRead: does Read answer what it must?
func checkRead(t *testing.T, s string) {
	t.Helper()
	l, e := wave.Read(s)
	if wrong(s) {
		if len(l) != 0 || e != api.ErrForm {
			t.Errorf("%q: %v, %v", s, l, e)
		}
		return
	}
	if e != api.OK || wave.Text(l...) != s {
		t.Errorf("%q: %v, %v", s, l, e)
	}
}

func TestP50_1ReadWrong(t *testing.T) {
	for _, s := range []string{
		"", "\n", "READ", "READ \n", strings.Repeat("\n", 7), strings.Repeat("READ \n", 7), strings.Repeat("_", 42), strings.Repeat("#", 7*7),
		"READ \nBA   \nBS   \nLIC  \nAVMA \nBUSY \nMINE ",
		"READ \nBA   \nBS   \nLIC  \nAVMA \nBUSY \n",
		"READ \nBA   \nBS   \nLIC  \nAVMA \nBUSY \nMINE \n\n",
		"READ\nBA\nBS\nLIC\nAVMA\nBUSY\nMINE\n",
		"READ _\nBA   _\nBS   _\nLIC  _\nAVMA _\nBUSY __\nMINE \n",
		"READ _\nBA   _\nBS   _\nLIC  _\nAVMA _\nBUSY _\nMINE é\n",
		"BA   _\nREAD _\nBS   _\nLIC  _\nAVMA _\nBUSY _\nMINE _\n",
		"read _\nba   _\nbs   _\nlic  _\navma _\nbusy _\nmine _\n",
		"READ _\r\nBA   _\r\nBS   _\r\nLIC  _\r\nAVMA _\r\nBUSY _\r\nMINE _\r\n",
	} {
		if !wrong(s) {
			t.Fatalf("%q isn't wrong", s)
		}
		checkRead(t, s)
	}
	// Each sign another one, one more, or one less.
	for _, l := range [][]api.Rec{nil, trace(5), trace(127, 0, 85)} {
		s := wave.Text(l...)
		for i := range len(s) + 1 {
			for _, c := range "#_ \nRBMx\x00é" {
				checkRead(t, s[:i]+string(c)+s[i:])
				if i < len(s) {
					checkRead(t, s[:i]+string(c)+s[i+1:])
				}
			}
			if i < len(s) {
				checkRead(t, s[:i]+s[i+1:])
			}
			checkRead(t, s[:i])
			checkRead(t, s[i:])
		}
	}
	// Lines that are cut and joined somewhere else are as long in all.
	s := wave.Text(trace(1, 2, 3)...)
	for i := range len(s) {
		checkRead(t, s[i:]+s[:i])
	}
}

func TestP50_2Known(t *testing.T) {
	for s, want := range map[string][2]int{
		"": {0, 0}, "_": {0, 0}, "#": {1, 1}, "##": {1, 2}, "#_": {1, 1}, "_#": {1, 1},
		"#_#": {2, 2}, "__##__##_#": {3, 5}, "####____": {1, 4}, "_#_#_#_#": {4, 4},
	} {
		for line := range 7 {
			// All other lines are the other way round.
			var l []api.Rec
			for _, c := range s {
				n := 127 &^ (1 << line)
				if c == '#' {
					n = 1 << line
				}
				l = append(l, levels(n))
			}
			if rises, high := wave.Rises(line, l...), wave.High(line, l...); rises != want[0] || high != want[1] {
				t.Errorf("%s, the line %d: %d, %d, not %v", s, line, rises, high, want)
			}
		}
	}
}

func TestP50_2Any(t *testing.T) {
	r := rand.New(rand.NewSource(502))
	for range 300 {
		l := make([]api.Rec, r.Intn(100))
		for i := range l {
			l[i] = levels(r.Intn(128))
		}
		kept := slices.Clone(l)
		for line := range 7 {
			s := wave.Line(line, l...)
			if got, want := wave.Rises(line, l...), strings.Count("_"+s, "_#"); got != want {
				t.Fatalf("%s: Rises %d, not %d", s, got, want)
			}
			if got, want := wave.High(line, l...), strings.Count(s, "#"); got != want {
				t.Fatalf("%s: High %d, not %d", s, got, want)
			}
		}
		for _, line := range others {
			if rises, high := wave.Rises(line, l...), wave.High(line, l...); rises != 0 || high != 0 {
				t.Fatalf("the line %d: %d, %d", line, rises, high)
			}
		}
		if !slices.Equal(l, kept) {
			t.Fatal("what came in is another one")
		}
	}
}

func TestP1None(t *testing.T) {
	for _, line := range append(others, 0, 1, 2, 3, 4, 5, 6) {
		if wave.Line(line) != "" || wave.Rises(line) != 0 || wave.High(line) != 0 {
			t.Errorf("the line %d of no records", line)
		}
	}
}

// What Read answers is new memory.
func TestP2Again(t *testing.T) {
	s := wave.Text(trace(3, 99)...)
	one, _ := wave.Read(s)
	clear(one)
	if two, e := wave.Read(s); e != api.OK || !slices.Equal(two, trace(3, 99)) {
		t.Errorf("%v, %v", two, e)
	}
}
