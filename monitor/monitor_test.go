package monitor_test

import (
	"fmt"
	"math/rand"
	"slices"
	"strings"
	"testing"

	"spinet/api"
	"spinet/cpu"
	"spinet/machine"
	"spinet/monitor"
)

// program: LDA of 5, STA at 0100, BRA to 0000.
var program = []byte{0x86, 0x05, 0xB7, 0x01, 0x00, 0x20, 0xF9}

// made: a machine that must be right.
func made(t *testing.T, c api.Config, s cpu.State, image []byte) *machine.Machine {
	t.Helper()
	m, e := machine.Restore(c, s, image)
	if m == nil || e != api.OK {
		t.Fatal(e)
	}
	return m
}

// plain: a machine at a boundary, all of whose registers are 0, all of whose memory can be written.
func plain(t *testing.T, image []byte) *machine.Machine {
	t.Helper()
	return made(t, api.Config{Rom: 65536}, cpu.State{}, image)
}

// say: one line after the other, each with what must be answered.
func say(t *testing.T, x *monitor.Monitor, lines ...[2]string) {
	t.Helper()
	for _, l := range lines {
		if got := x.Exec(l[0]); got != l[1] {
			t.Errorf("%q: %q, not %q", l[0], got, l[1])
		}
	}
}

// regs: the registers' line of a machine on which nothing but A and PC is other than 0.
func regs(pc, a string) string {
	return "PC=" + pc + " S=0000 U=0000 X=0000 Y=0000 A=" + a + " B=00 DP=00 CC=--------\n"
}

func TestP56_1Regs(t *testing.T) {
	for _, c := range []struct {
		r    api.Regs
		want string
	}{
		{api.Regs{}, "PC=0000 S=0000 U=0000 X=0000 Y=0000 A=00 B=00 DP=00 CC=--------\n"},
		{api.Regs{PC: 0x1234, S: 0x2345, U: 0x3456, X: 0x4567, Y: 0x5678, A: 0x9A, B: 0xAB, DP: 0xBC, CC: 0x82}, "PC=1234 S=2345 U=3456 X=4567 Y=5678 A=9A B=AB DP=BC CC=E-----V-\n"},
		{api.Regs{PC: 65535, S: 65535, U: 65535, X: 65535, Y: 65535, A: 255, B: 255, DP: 255, CC: 255}, "PC=FFFF S=FFFF U=FFFF X=FFFF Y=FFFF A=FF B=FF DP=FF CC=EFHINZVC\n"},
		{api.Regs{PC: 1, S: 16, U: 0xABC, X: 0x100, Y: 0xF, A: 1, B: 15, DP: 16, CC: 1}, "PC=0001 S=0010 U=0ABC X=0100 Y=000F A=01 B=0F DP=10 CC=-------C\n"},
	} {
		if got := monitor.Regs(c.r); got != c.want {
			t.Errorf("%+v: %q, not %q", c.r, got, c.want)
		}
	}
}

// codes: the letters of the codes, by their bits.
func codes(cc byte) string {
	out := ""
	for i, bits := 0, fmt.Sprintf("%08b", cc); i < 8; i++ {
		if bits[i] == '1' {
			out += "EFHINZVC"[i : i+1]
		} else {
			out += "-"
		}
	}
	return out
}

// told: the line of registers.
func told(r api.Regs) string {
	return fmt.Sprintf("PC=%04X S=%04X U=%04X X=%04X Y=%04X A=%02X B=%02X DP=%02X CC=%s\n", r.PC, r.S, r.U, r.X, r.Y, r.A, r.B, r.DP, codes(r.CC))
}

func TestP56_1RegsAny(t *testing.T) {
	r := rand.New(rand.NewSource(561))
	for i := range 2000 {
		x := api.Regs{A: byte(r.Uint32()), B: byte(r.Uint32()), DP: byte(r.Uint32()), CC: byte(i), X: uint16(r.Uint32()), Y: uint16(r.Uint32()), U: uint16(r.Uint32()), S: uint16(r.Uint32()), PC: uint16(r.Uint32())}
		if got := monitor.Regs(x); got != told(x) {
			t.Fatalf("%+v: %q", x, got)
		}
		// A machine tells the same of its own.
		if got := monitor.New(made(t, api.Config{Rom: 65536}, cpu.State{Regs: x}, nil)).Exec("r"); i < 300 && got != told(x) {
			t.Fatalf("r of %+v: %q", x, got)
		}
	}
}

// The machine is the one that was given: what is done with one is done with the other one.
func TestP56_1Itself(t *testing.T) {
	m := plain(t, program)
	x := monitor.New(m)
	say(t, x, [2]string{"s 1", "steps 1 cycles 2\n" + regs("0002", "05")})
	if m.Regs().PC != 2 || m.Regs().A != 5 {
		t.Errorf("%+v", m.Regs())
	}
	m.Steps(1)
	m.Ram().Poke(0x7FFF, 0xAB)
	say(t, x, [2]string{"r", regs("0005", "05")}, [2]string{"m 7FFE 3", "7FFE 00AB00\n"}, [2]string{"w 7FFE CD", "7FFE CD\n"})
	if m.Ram().Read(0x7FFE) != 0xCD {
		t.Error("w writes elsewhere")
	}
}

// A new one has no points, and points are its own.
func TestP56_1NoPoints(t *testing.T) {
	m := plain(t, program)
	x := monitor.New(m)
	say(t, x, [2]string{"g 20", "cycles 20\n" + regs("0000", "05")}, [2]string{"b 2 x", "point 1\n"})
	other := monitor.New(m)
	say(t, other, [2]string{"g 5", "cycles 5\n" + regs("0002", "05")}, [2]string{"b 5 x", "point 1\n"})
	say(t, x, [2]string{"b 0 x", "point 2\n"}, [2]string{"g 20", "cycles 5 2\n" + regs("0000", "05")})
}

func TestP56_2Words(t *testing.T) {
	m := plain(t, program)
	x := monitor.New(m)
	for _, s := range []string{"", " ", "     ", strings.Repeat(" ", 20000)} {
		say(t, x, [2]string{s, ""})
	}
	for _, s := range []string{"r", " r", "r ", "   r   "} {
		say(t, x, [2]string{s, regs("0000", "00")})
	}
	say(t, x, [2]string{"  m   0    2  ", "0000 8605\n"})
	// Other signs are no blanks.
	for _, s := range []string{"\t", "\n", "r\n", "\tr", "r\t", "m\t0\t2", "m 0 2\n", "m\n0 2", "r\u00a0", "\u00a0", "r\x00", "\x00", "\r", "r;", "\xff", "r\xff", "\u2003r"} {
		say(t, x, [2]string{s, "error 21\n"})
	}
	say(t, x, [2]string{"m 0\t 2", "error 21\n"}, [2]string{"m 0 2\t", "error 21\n"}, [2]string{"c .\n", "error 21\n"})
}

func TestP56_2NoSuchLine(t *testing.T) {
	m := plain(t, program)
	before := m.Copy()
	x := monitor.New(m)
	for _, s := range []string{
		"R", "S 1", "G 1", "C .", "M 0 1", "W 0 00", "D 0 1", "B 0 r", "q", "rr", "help", "?", "0", "error 21", "a 0 1",
		"r 1", "r r", "s", "s 1 1", "g", "g 1 1", "m", "m 0", "m 0 1 1", "w", "w 0", "w 0 00 00", "d", "d 0", "d 0 1 1", "b", "b 0", "b 0 r r", "b 0 r w",
		// Of these no word is looked at.
		"s x 1", "m 10000", "m xyz 1 1", "w 10000", "w ZZ", "w 10000 00 00", "b 10000", "d 10000",
	} {
		say(t, x, [2]string{s, "error 21\n"})
	}
	if !machine.Same(m, before) {
		t.Error("something was done")
	}
	say(t, x, [2]string{"b 0 r", "point 1\n"})
}

func TestP56_2Steps(t *testing.T) {
	x := monitor.New(plain(t, program))
	say(t, x,
		[2]string{"s 0", "steps 0 cycles 0\n" + regs("0000", "00")},
		[2]string{"s 1", "steps 1 cycles 2\n" + regs("0002", "05")},
		[2]string{"s 2", "steps 2 cycles 8\n" + regs("0000", "05")},
		[2]string{"s 00000000000000000003", "steps 3 cycles 10\n" + regs("0000", "05")},
		[2]string{"s 999", "steps 999 cycles 3330\n" + regs("0000", "05")},
		[2]string{"s 1000", "steps 1000 cycles 3332\n" + regs("0002", "05")},
		[2]string{"s 1001", "error 50\n"},
		[2]string{"s 18446744073709551615", "error 50\n"},
		[2]string{"s 18446744073709551616", "error 50\n"},
		[2]string{"s 000000000000000000003", "error 12\n"},
		[2]string{"s 111111111111111111111", "error 12\n"},
		[2]string{"s x", "error 21\n"},
		[2]string{"s -1", "error 21\n"},
		[2]string{"s +1", "error 21\n"},
		[2]string{"s A", "error 21\n"},
		[2]string{"s 11111111111111111111111x", "error 21\n"},
		[2]string{"r", regs("0002", "05")},
	)
	// It stops where the processor waits: NOP, SYNC.
	x = monitor.New(plain(t, []byte{0x12, 0x13, 0x12}))
	say(t, x,
		[2]string{"s 5", "steps 2 cycles 5\n" + regs("0002", "00")},
		[2]string{"s 5", "steps 1 cycles 1\n" + regs("0002", "00")},
		[2]string{"c I", "FFFF 00 R --LV- M\n"},
		[2]string{"s 1", "steps 1 cycles 2\n" + regs("0003", "00")},
	)
}

func TestP56_2Runs(t *testing.T) {
	x := monitor.New(plain(t, program))
	say(t, x,
		[2]string{"g 0", "cycles 0\n" + regs("0000", "00")},
		[2]string{"g 1", "cycles 1\n" + regs("0000", "00")},
		[2]string{"g 6", "cycles 6\n" + regs("0005", "05")},
		[2]string{"g 4096", "cycles 4096\n" + regs("0002", "05")},
		[2]string{"g 4097", "error 50\n"},
		[2]string{"g 4294967296", "error 50\n"},
		[2]string{"g 99999999999999999999", "error 50\n"},
		[2]string{"g 100000000000000000000", "error 12\n"},
		[2]string{"g", "error 21\n"},
		[2]string{"g 1.", "error 21\n"},
	)
	x = monitor.New(plain(t, program))
	say(t, x,
		[2]string{"b 100 w", "point 1\n"},
		[2]string{"b 5 x", "point 2\n"},
		[2]string{"b 6 r", "point 3\n"},
		[2]string{"b 100 r", "point 4\n"},
		[2]string{"g 6", "cycles 6\n" + regs("0002", "05")},
		[2]string{"g 0", "cycles 0\n" + regs("0002", "05")},
		[2]string{"g 4096", "cycles 1 1 2\n" + regs("0005", "05")},
		[2]string{"g 4096", "cycles 2 3\n" + regs("0005", "05")},
		[2]string{"g 4096", "cycles 8 1 2\n" + regs("0005", "05")},
	)
}

func TestP56_2Cycles(t *testing.T) {
	x := monitor.New(plain(t, program))
	say(t, x,
		[2]string{"c", ""},
		[2]string{"c   ", ""},
		[2]string{"c .", "0000 86 R ---V- M\n"},
		[2]string{"c . .*2", "0001 05 R --LV- M\n0002 B7 R ---V- M\n0003 01 R ---V- M\n"},
		[2]string{"c R*02  . .*2", "FFFE 00 R ---V- M\nFFFE 00 R ---V- M\nFFFE 00 R -S-VB M\nFFFF 00 R -S--- M\nFFFF 00 R --LV- M\n"},
		[2]string{"r", "PC=0000 S=0000 U=0000 X=0000 Y=0000 A=05 B=00 DP=00 CC=-F-I----\n"},
		[2]string{"c H Q", "FFFF 00 R ASL-- -\nFFFF 00 R AS--- -\n"},
		[2]string{"c x", "error 21\n"},
		[2]string{"c . ,", "error 21\n"},
		[2]string{"c .*0", "error 10\n"},
		[2]string{"c .*0 x", "error 10\n"},
		[2]string{"c x .*0", "error 21\n"},
		[2]string{"c .*4097", "error 12\n"},
		[2]string{"c .*4096 .", "error 12\n"},
		[2]string{"c . * 2", "error 21\n"},
		[2]string{"c NR", "error 21\n"},
		[2]string{"r", "PC=0000 S=0000 U=0000 X=0000 Y=0000 A=05 B=00 DP=00 CC=-F-I----\n"},
	)
	if got := x.Exec("c .*4095 ."); strings.Count(got, "\n") != 4096 {
		t.Errorf("%d lines", strings.Count(got, "\n"))
	}
}

func TestP56_2Bytes(t *testing.T) {
	image := make([]byte, 65536)
	for i := range image {
		image[i] = byte(i*7 + i>>8)
	}
	x := monitor.New(plain(t, nil))
	say(t, x, [2]string{"m 0 2", "0000 0000\n"})
	x = monitor.New(plain(t, image))
	for _, at := range []int{0, 1, 0xFF, 0x1234, 0x7FF8, 0xFF00, 0xFFF0, 0xFFF8, 0xFFFF} {
		for _, n := range []int{0, 1, 2, 15, 16, 17, 31, 32, 33, 255, 256} {
			want := ""
			for i := range n {
				if i%16 == 0 {
					want += fmt.Sprintf("%04X ", (at+i)%65536)
				}
				want += fmt.Sprintf("%02X", image[(at+i)%65536])
				if i%16 == 15 || i == n-1 {
					want += "\n"
				}
			}
			for _, s := range []string{"m %x %d", "m %04X %05d"} {
				say(t, x, [2]string{fmt.Sprintf(s, at, n), want})
			}
		}
	}
	say(t, x,
		[2]string{"m 0 257", "error 50\n"},
		[2]string{"m ffff 99999999999999999999", "error 50\n"},
		[2]string{"m 0 000000000000000000001", "error 12\n"},
		[2]string{"m 0 1A", "error 21\n"},
		[2]string{"m 0000000000000000 1", "0000 00\n"},
		[2]string{"m 10000 1", "error 11\n"},
		[2]string{"m FFFFFFFFFFFFFFFF 1", "error 11\n"},
		[2]string{"m 00000000000000000 1", "error 12\n"},
		[2]string{"m $0 1", "error 21\n"},
		[2]string{"m 0x0 1", "error 21\n"},
		[2]string{"m G 1", "error 21\n"},
		// The address comes first.
		[2]string{"m 10000 x", "error 11\n"},
		[2]string{"m 10000 257", "error 11\n"},
		[2]string{"m 00000000000000000 257", "error 12\n"},
		[2]string{"m x 257", "error 21\n"},
	)
}

func TestP56_2Writes(t *testing.T) {
	// Nothing can be written from 0 on, but what one says is.
	m := made(t, api.Config{Kind: 1}, cpu.State{}, nil)
	x := monitor.New(m)
	say(t, x,
		[2]string{"w 0 01", "0000 01\n"},
		[2]string{"w 10 00ff", "0010 00FF\n"},
		[2]string{"w fff0 000102030405060708090A0b0C0d0E0F", "FFF0 000102030405060708090A0B0C0D0E0F\n"},
		[2]string{"w 1FF 000102030405060708090A0B0C0D0E0F10", "01FF 000102030405060708090A0B0C0D0E0F\n020F 10\n"},
		[2]string{"m FFFF 2", "FFFF 0F01\n"},
	)
	long := strings.Repeat("A5", 65536)
	want := ""
	for i := range 4096 {
		want += fmt.Sprintf("%04X %s\n", i*16, strings.Repeat("A5", 16))
	}
	say(t, x, [2]string{"w 0 " + long, want})
	before := m.Copy()
	say(t, x,
		[2]string{"w 0 " + long + "00", "error 11\n"},
		[2]string{"w 1 " + long, "error 11\n"},
		[2]string{"w FFFF 0000", "error 11\n"},
		[2]string{"w 0 0", "error 21\n"},
		[2]string{"w 0 000", "error 21\n"},
		[2]string{"w 0 0G", "error 21\n"},
		[2]string{"w 0 -1", "error 21\n"},
		// In their order: the address, the digits, the place.
		[2]string{"w 10000 0", "error 11\n"},
		[2]string{"w 10000 00", "error 11\n"},
		[2]string{"w 00000000000000000 0", "error 12\n"},
		[2]string{"w FFFF 000", "error 21\n"},
		[2]string{"w x 00", "error 21\n"},
	)
	if !machine.Same(m, before) {
		t.Error("something was written")
	}
	say(t, x, [2]string{"w FFFF 00", "FFFF 00\n"}, [2]string{"m FFFE 3", "FFFE A500A5\n"})
}

func TestP56_2Instructions(t *testing.T) {
	x := monitor.New(plain(t, program))
	say(t, x,
		[2]string{"d 0 3", "0000 8605       LDA #$05\n0002 B70100     STA >$0100\n0005 20F9       BRA $0000\n"},
		[2]string{"d 1 1", "0001 05         FCB $05\n"},
		[2]string{"d 0 0", ""},
		[2]string{"d FFFF 2", "FFFF 0086       NEG <$86\n0001 05         FCB $05\n"},
		[2]string{"d 0 257", "error 50\n"},
		[2]string{"d 10000 257", "error 11\n"},
		[2]string{"d 0 x", "error 21\n"},
		[2]string{"d 0 000000000000000000000", "error 12\n"},
		[2]string{"d x 1", "error 21\n"},
		[2]string{"d 11111111111111111 1", "error 12\n"},
	)
	got := x.Exec("d 8000 256")
	if lines := strings.Split(got, "\n"); len(lines) != 257 || lines[0] != "8000 0000       NEG <$00" || lines[255] != "81FE 0000       NEG <$00" || lines[256] != "" {
		t.Errorf("%q", got)
	}
	say(t, x, [2]string{"r", regs("0000", "00")})
}

func TestP56_2Points(t *testing.T) {
	x := monitor.New(plain(t, program))
	say(t, x,
		[2]string{"b 1 r", "point 1\n"},
		[2]string{"b 10000 r", "error 11\n"},
		[2]string{"b x r", "error 21\n"},
		[2]string{"b 00000000000000001 r", "error 12\n"},
		[2]string{"b 1 y", "error 40\n"},
		[2]string{"b 1 R", "error 40\n"},
		[2]string{"b 1 0", "error 40\n"},
		[2]string{"b 1 rw", "error 40\n"},
		[2]string{"b 10000 y", "error 11\n"},
		[2]string{"b 1G y", "error 21\n"},
		[2]string{"b ffff w", "point 2\n"},
		[2]string{"b 0 x", "point 3\n"},
		[2]string{"b 0 x", "point 4\n"},
		// Neither the address ahead nor the one behind is met.
		[2]string{"g 99", "cycles 2 1\n" + regs("0002", "05")},
		[2]string{"g 99", "cycles 8 3 4\n" + regs("0000", "05")},
	)
	x = monitor.New(plain(t, program))
	say(t, x,
		[2]string{"b 0FF w", "point 1\n"},
		[2]string{"b 101 w", "point 2\n"},
		[2]string{"b 100 r", "point 3\n"},
		[2]string{"b 100 x", "point 4\n"},
		[2]string{"g 999", "cycles 999\n" + regs("0005", "05")},
		[2]string{"b 100 w", "point 5\n"},
		[2]string{"g 999", "cycles 8 5\n" + regs("0005", "05")},
	)
}

// A line that can't be done leaves the machine and the points as they are.
func TestP56_2NothingDone(t *testing.T) {
	m := plain(t, program)
	x := monitor.New(m)
	say(t, x, [2]string{"b 5 x", "point 1\n"}, [2]string{"c .*4", "0000 86 R ---V- M\n0001 05 R --LV- M\n0002 B7 R ---V- M\n0003 01 R ---V- M\n"})
	before := m.Copy()
	for _, s := range []string{"s 1001", "g 4097", "c . . x", "c .*4096 .", "m 0 257", "w 0 0", "w FFFF 0102", "d 0 257", "b 0 z", "b 10000 x", "s", "g 1 2", "zzz"} {
		if got := x.Exec(s); !strings.HasPrefix(got, "error ") || !machine.Same(m, before) {
			t.Errorf("%q: %q", s, got)
		}
	}
	say(t, x, [2]string{"g 99", "cycles 3 1\n" + regs("0005", "05")}, [2]string{"b 0 w", "point 2\n"})
}

// Any signs at all are answered, line by line.
func TestP1AnySigns(t *testing.T) {
	const signs = "rsgcmwdbx 0123456789ABCDEFNQH.*\t\n\x00\xff"
	r := rand.New(rand.NewSource(1))
	x := monitor.New(plain(t, program))
	for range 20000 {
		b := make([]byte, r.Intn(24))
		for i := range b {
			b[i] = signs[r.Intn(len(signs))]
		}
		if got := x.Exec(string(b)); got != "" && !strings.HasSuffix(got, "\n") {
			t.Fatalf("%q: %q", b, got)
		}
	}
}

// Two that are talked to alike answer alike, and what others are told counts for nothing.
func TestP2Alike(t *testing.T) {
	r := rand.New(rand.NewSource(2))
	image := make([]byte, 65536)
	r.Read(image)
	m := made(t, api.Config{Kind: 1, Rom: 0xC000}, cpu.State{}, image)
	one, two, other := monitor.New(m.Copy()), monitor.New(m.Copy()), monitor.New(m.Copy())
	for range 3000 {
		s := anyLine(r)
		if a, b := one.Exec(s), two.Exec(s); a != b {
			t.Fatalf("%q: %q, %q", s, a, b)
		}
		other.Exec(anyLine(r))
	}
}

// anyLine: a line that may be right, or nearly so.
func anyLine(r *rand.Rand) string {
	number := []string{"0", "1", "7", "16", "33", "100", "255", "256", "257", "1000", "1001", "4096", "4097", "99999999999999999999", "000000000000000000001", "x", "-1"}
	addr := []string{"0", "5", "FFFF", "fff0", "00100", "10000", "x", "00000000000000000", fmt.Sprintf("%X", r.Intn(65536)), fmt.Sprintf("%x", r.Intn(65536))}
	digits := []string{"00", "12AB", "0", "ffEE00", "G0", strings.Repeat("1F", r.Intn(60))}
	word := []string{".", "N", "F", "I", "H*3", "Q*20", ".*50", ".*9", "NF", "R", "x", ".*0", ".*4097"}
	kind := []string{"r", "w", "x", "x", "X", "rw"}
	pick := func(l []string) string { return l[r.Intn(len(l))] }
	var l []string
	switch r.Intn(9) {
	case 0:
		l = []string{"r"}
	case 1:
		l = []string{"s", pick(number)}
	case 2:
		l = []string{"g", pick(number)}
	case 3:
		l = []string{"c"}
		for range r.Intn(4) {
			l = append(l, pick(word))
		}
	case 4:
		l = []string{"m", pick(addr), pick(number)}
	case 5:
		l = []string{"w", pick(addr), pick(digits)}
	case 6:
		l = []string{"d", pick(addr), pick(number)}
	case 7:
		l = []string{"b", pick(addr), pick(kind)}
	case 8:
		l = []string{pick(append(number, kind...)), pick(addr)}
	}
	if r.Intn(12) == 0 {
		i := r.Intn(len(l))
		l = slices.Insert(slices.Delete(l, i, i+1), 0, pick(word))
	}
	return strings.Repeat(" ", r.Intn(2)) + strings.Join(l, strings.Repeat(" ", 1+r.Intn(2))) + strings.Repeat(" ", r.Intn(2))
}
