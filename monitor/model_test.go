package monitor_test

import (
	"fmt"
	"math/big"
	"math/rand"
	"regexp"
	"slices"
	"strings"
	"testing"

	"spinet/api"
	"spinet/cpu"
	"spinet/dis"
	"spinet/edge"
	"spinet/machine"
	"spinet/monitor"
	"spinet/record"
)

// The second reckoning: lines are looked at by patterns, numbers are of any length, points are a plain list, and the machine goes cycle by cycle.

var (
	blanks   = regexp.MustCompile(` +`)
	justHex  = regexp.MustCompile(`^[0-9A-Fa-f]+$`)
	justDec  = regexp.MustCompile(`^[0-9]+$`)
	byTwos   = regexp.MustCompile(`^([0-9A-Fa-f]{2})*$`)
	group    = regexp.MustCompile(`^(\.|R?N?F?I?H?Q?)(?:\*([0-9]+))?$`)
	ofScript = regexp.MustCompile(`^c( |$)`)
	ofTwo    = regexp.MustCompile(`^([sg]) ([^ ]+)$`)
	ofThree  = regexp.MustCompile(`^([mwdb]) ([^ ]+) ([^ ]+)$`)
)

// point is one of a kind (its letter) at an address; its number is one more than its place.
type point struct {
	kind string
	at   uint16
}

type model struct {
	m      *machine.Machine
	points []point
}

// number: of digits to a base, at most so many: the number, or the error's number.
func number(s string, base, digits int, most int64, over int) (int, int) {
	form := justDec
	if base == 16 {
		form = justHex
	}
	if !form.MatchString(s) {
		return 0, 21
	}
	if len(s) > digits {
		return 0, 12
	}
	n, _ := new(big.Int).SetString(s, base)
	if n.Cmp(big.NewInt(most)) > 0 {
		return 0, over
	}
	return int(n.Int64()), 0
}

// failed: the line of an error.
func failed(n int) string { return fmt.Sprintf("error %d\n", n) }

// cycle: a cycle, and the numbers of the points that are met.
func (x *model) cycle() []int {
	r := x.m.Cycle(api.Pins{})
	var met []int
	for i, p := range x.points {
		here := p.at == r.Addr && (p.kind == "r" && r.Read || p.kind == "w" && !r.Read)
		comes := p.kind == "x" && x.m.Mode() == api.AtBoundary && p.at == x.m.Regs().PC
		if r.Mine && (here || comes) {
			met = append(met, i+1)
		}
	}
	return met
}

// dump: bytes, sixteen a line.
func (x *model) dump(at, many int) string {
	out := ""
	for i := range many {
		a := uint16(at + i)
		if i%16 == 0 {
			out += fmt.Sprintf("\n%04X ", a)
		}
		out += fmt.Sprintf("%02X", x.m.Ram().Read(a))
	}
	return strings.TrimPrefix(out+"\n", "\n")
}

func (x *model) exec(s string) string {
	s = strings.Trim(blanks.ReplaceAllString(s, " "), " ")
	switch l2, l3 := ofTwo.FindStringSubmatch(s), ofThree.FindStringSubmatch(s); {
	case s == "":
		return ""
	case s == "r":
		return told(x.m.Regs())
	case ofScript.MatchString(s):
		return x.script(strings.TrimPrefix(s, "c"))
	case l2 != nil && l2[1] == "s":
		return x.steps(l2[2])
	case l2 != nil:
		return x.run(l2[2])
	case l3 != nil:
		at, e := number(l3[2], 16, 16, 65535, 11)
		if e > 0 {
			return failed(e)
		}
		return x.there(l3[1], at, l3[3])
	}
	return failed(21)
}

func (x *model) steps(s string) string {
	n, e := number(s, 10, 20, 1000, 50)
	if e > 0 {
		return failed(e)
	}
	steps, cycles := 0, 0
	for goes := true; goes && steps < n; steps++ {
		var c int
		c, goes = x.m.Step()
		cycles += c
	}
	return fmt.Sprintf("steps %d cycles %d\n", steps, cycles) + told(x.m.Regs())
}

func (x *model) run(s string) string {
	n, e := number(s, 10, 20, 4096, 50)
	if e > 0 {
		return failed(e)
	}
	out := fmt.Sprintf("cycles %d", n)
	for i := range n {
		if met := x.cycle(); len(met) > 0 {
			slices.Sort(met)
			out = fmt.Sprintf("cycles %d %s", i+1, strings.Trim(fmt.Sprint(met), "[]"))
			break
		}
	}
	return out + "\n" + told(x.m.Regs())
}

func (x *model) script(s string) string {
	var l []api.Pins
	for _, w := range strings.Fields(s) {
		g := group.FindStringSubmatch(w)
		if g == nil || g[1] == "" {
			return failed(21)
		}
		n := 1
		if g[2] != "" {
			big, _ := new(big.Int).SetString(g[2], 10)
			if big.Sign() == 0 {
				return failed(10)
			}
			if !big.IsInt64() || big.Int64() > 4096 {
				return failed(12)
			}
			n = int(big.Int64())
		}
		if len(l)+n > 4096 {
			return failed(12)
		}
		has := func(c string) bool { return strings.Contains(g[1], c) }
		l = append(l, slices.Repeat([]api.Pins{{Reset: has("R"), Nmi: has("N"), Firq: has("F"), Irq: has("I"), Halt: has("H"), Req: has("Q")}}, n)...)
	}
	out := ""
	for _, p := range l {
		out += record.Text(x.m.Cycle(p)) + "\n"
	}
	return out
}

// there: the lines that have an address.
func (x *model) there(word string, at int, last string) string {
	switch word {
	case "b":
		if !strings.Contains("r w x", last) || len(last) != 1 {
			return failed(40)
		}
		x.points = append(x.points, point{last, uint16(at)})
		return fmt.Sprintf("point %d\n", len(x.points))
	case "w":
		if !byTwos.MatchString(last) {
			return failed(21)
		}
		if at+len(last)/2 > 65536 {
			return failed(11)
		}
		for i := range len(last) / 2 {
			var b byte
			fmt.Sscanf(last[2*i:2*i+2], "%x", &b)
			x.m.Ram().Poke(uint16(at+i), b)
		}
		return x.dump(at, len(last)/2)
	}
	n, e := number(last, 10, 20, 256, 50)
	if e > 0 {
		return failed(e)
	}
	if word == "m" {
		return x.dump(at, n)
	}
	out := ""
	for next := uint16(at); n > 0; n-- {
		var s string
		s, next = dis.Line(next, x.m.Ram())
		out += s + "\n"
	}
	return out
}

func TestP56_2Model(t *testing.T) {
	r := rand.New(rand.NewSource(562))
	heads := map[string]int{}
	for range 60 {
		image := make([]byte, 65536)
		r.Read(image)
		// Some machines begin with a program that goes round, so that points are met.
		s := cpu.State{Regs: api.Regs{PC: uint16(r.Intn(65536)), S: uint16(r.Intn(65536)), CC: byte(r.Intn(256))}, Latch: edge.Latch{Armed: r.Intn(2) > 0}}
		if r.Intn(2) > 0 {
			copy(image, program)
			s = cpu.State{}
		}
		m := made(t, api.Config{Kind: r.Intn(2), Rom: r.Intn(65537)}, s, image)
		other := &model{m: m.Copy()}
		x := monitor.New(m)
		for range 60 {
			l := anyLine(r)
			got, want := x.Exec(l), other.exec(l)
			if got != want || !machine.Same(m, other.m) {
				t.Fatalf("%q: %q, not %q", l, got, want)
			}
			head, _, _ := strings.Cut(got, " ")
			heads[head]++
		}
	}
	for _, head := range []string{"error", "steps", "cycles", "point", ""} {
		if heads[head] < 20 {
			t.Errorf("%q came %d times only", head, heads[head])
		}
	}
}
