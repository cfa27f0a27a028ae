package promises

import (
	"bytes"
	"errors"
	"fmt"
	"math"
	"math/rand"
	"reflect"
	"strings"

	"spinet/api"
	"spinet/asm"
	"spinet/core"
	"spinet/cpu"
	"spinet/file"
	"spinet/inst"
	"spinet/machine"
	"spinet/monitor"
	"spinet/post"
	"spinet/prof"
	"spinet/queue"
	"spinet/ram"
	"spinet/report"
	"spinet/ring"
	"spinet/slice"
	"spinet/snap"
	"spinet/srec"
	"spinet/symbols"
	"spinet/watch"
)

// gen makes arguments; of the same seed always the same ones.
type gen struct{ *rand.Rand }

func newGen(seed int64) gen { return gen{rand.New(&source{uint64(seed)})} }

// source is one that begins at once; the library's own takes longer to begin than most calls do.
type source struct{ at uint64 }

func (s *source) Seed(seed int64) { s.at = uint64(seed) }
func (s *source) Int63() int64    { return int64(s.Uint64() >> 1) }
func (s *source) Uint64() uint64 {
	s.at += 0x9E3779B97F4A7C15
	z := s.at
	z = (z ^ z>>30) * 0xBF58476D1CE4E5B9
	z = (z ^ z>>27) * 0x94D049BB133111EB
	return z ^ z>>31
}

// fields is an operand, a register, .. : what texts are made of.
var fields = []string{"", " ", "\n", "\t", ",", ";", ":", "+", "-", "*", "#", "<", ">", "[", "]", "'", "$", "%", "0", "1", "7", "16", "00", "255", "FF", "fff0", "65535", "65536", "10000", "18446744073709551615", "99999999999999999999", "000000000000000000000", "X", "Y", "U", "S", "PC", "A", "B", "D", "CC", "DP", "R6", "LDA", "STA", "LBEQ", "BRA", "PSHS", "EXG", "TFR", "NOP", "SYNC", "SWI", "ORG", "EQU", "RMB", "FCB", "FDB", "TSC", "DMA", " ROM ", "R", "N", "F", "I", "H", "Q", ".", "_", "S1", "S9", "M", "W", "ASLVB", "---", "#_", "READ ", "EFHINZVC", "r", "s", "g", "c", "m", "w", "d", "b", "x", "\x00", "\xff", "\u00e9"}

// whole is texts that some call takes as they are.
var whole = []string{
	"TSC", "DMA ROM F000", "R*2 . NF", ".*40 N . I*9 H*3 Q*18 .", "S9030000FC", "S10510008605" + "5F", "S10510008605" + "5F\nS9030000FC\n", "FFFE 12 R -S-VB M", "E-----V-", "a: BRA a",
	"loop:   LDA #5\n        STA last+1,X\n        BRA loop\nlast:   FCB 1,-1,'A\n", " ORG $FFFE\n FDB $8000\n", "a EQU 5\n LDX a,PC\n PSHS A,B,X\n EXG D,Y\n", " NOP 5",
	"$10+2-*", "[$10,X]", ",--Y", "<5,PC", "D,X", "A,B,CC,PC", "X,S", "r", "s 3", "g 50", "c .*9 I", "m 0 33", "w 100 12AB", "d 0 5", "b 5 x", "b 100 w",
	"READ #_\nBA   __\nBS   __\nLIC  _#\nAVMA ##\nBUSY __\nMINE ##\n", "000102AbFf", "1000", "EQ", "LDA", "LBRN", "BHS", "SWI2",
}

// text: one that may be right, or nearly, or isn't.
func (g gen) text() string {
	s := whole[g.Intn(len(whole))]
	switch g.Intn(5) {
	case 0:
		return s
	case 1, 2:
		s = ""
		for range g.Intn(8) {
			s += fields[g.Intn(len(fields))]
		}
	case 3:
		at := g.Intn(len(s) + 1)
		s = s[:at] + fields[g.Intn(len(fields))] + s[min(len(s), at+g.Intn(3)):]
	case 4:
		b := make([]byte, g.Intn(30))
		g.Read(b)
		s = string(b)
	}
	return s
}

// number: the edges are many.
func (g gen) number() int {
	l := []int{math.MinInt, math.MinInt32 - 1, -65536, -129, -2, -1, 0, 0, 1, 1, 2, 3, 4, 5, 6, 7, 8, 9, 10, 11, 12, 14, 15, 16, 17, 20, 24, 25, 33, 50, 51, 52, 64, 128, 255, 256, 257, 1000, 4096, 4097, 65535, 65536, 65537, math.MaxInt32, math.MaxInt}
	if g.Intn(3) == 0 {
		return g.Intn(60)
	}
	return l[g.Intn(len(l))]
}

// count: a number of which so many are made; more would take too long.
func (g gen) count() int {
	if n := g.number(); n <= 300 {
		return n
	}
	return 300
}

// bytes: none at all, few, many.
func (g gen) bytes(most int) []byte {
	if g.Intn(6) == 0 {
		return nil
	}
	b := make([]byte, g.Intn(most+1))
	g.Read(b)
	if g.Intn(3) == 0 {
		clear(b[g.Intn(len(b)+1):])
	}
	return b
}

func (g gen) word() uint16 {
	l := []uint16{0, 1, 0x7F, 0x80, 0xFF, 0x100, 0x7FFF, 0x8000, 0xFFF2, 0xFFFE, 0xFFFF}
	if g.Intn(2) == 0 {
		return l[g.Intn(len(l))]
	}
	return uint16(g.Uint32())
}

// state: one of a processor that goes on, or any.
func (g gen) state() cpu.State {
	if g.Intn(3) > 0 {
		return g.machine().State()
	}
	return g.fill(reflect.TypeFor[cpu.State]()).Interface().(cpu.State)
}

// script: few cycles.
func (g gen) script(most int) []api.Pins {
	l := make([]api.Pins, g.Intn(most+1))
	for i := range l {
		on := func(of int) bool { return g.Intn(of) == 0 }
		l[i] = api.Pins{Reset: on(30), Nmi: on(9), Firq: on(9), Irq: on(9), Halt: on(9), Req: on(5)}
	}
	return l
}

// machine: one that some cycles went through.
func (g gen) machine() *machine.Machine {
	c := api.Config{Kind: g.Intn(2), Rom: []int{0, 0x100, 0xFF00, 65536}[g.Intn(4)]}
	m, e := machine.New(c, g.bytes(600))
	if e != api.OK {
		panic(e)
	}
	m.Run(g.script(60)...)
	return m
}

func (g gen) ram() *ram.Ram {
	m, e := ram.New(g.bytes(600), g.Intn(65537))
	if e != api.OK {
		panic(e)
	}
	m.Load(0xFF00, make([]byte, g.Intn(256))...)
	return m
}

// odd is a memory that panics.
type odd struct{}

func (odd) Read(uint16) byte        { panic("Read") }
func (odd) Write(uint16, byte) bool { panic("Write") }

// memory: one that answers what was written last; none; one that panics.
func (g gen) memory() cpu.Memory {
	switch g.Intn(24) {
	case 0:
		return nil
	case 1:
		return odd{}
	case 2:
		return (*ram.Ram)(nil)
	}
	return g.ram()
}

// inst: an instruction of bytes, or any.
func (g gen) inst() api.Inst {
	if g.Intn(4) == 0 {
		return g.fill(reflect.TypeFor[api.Inst]()).Interface().(api.Inst)
	}
	b := []byte{byte(g.Intn(256)), byte(g.Intn(256)), byte(g.Intn(256)), byte(g.Intn(256)), byte(g.Intn(256))}
	i, e := inst.Of(b[g.Intn(2):]...)
	if e != api.OK {
		i, _ = inst.Of(0x12)
	}
	return i
}

// program: one that layer 46 answers.
func (g gen) program() asm.Program {
	p, _, _ := asm.Assemble(whole[g.Intn(len(whole))])
	return p
}

// piece: one that lies within memory.
func (g gen) piece() srec.Piece {
	p := srec.Piece{At: g.word()}
	p.B = g.bytes(min(80, 65536-int(p.At)))
	return p
}

func (g gen) table() *symbols.Table {
	t := &symbols.Table{}
	for _, name := range []string{"a", "b", "loop", "last", "x.1", "_"} {
		if g.Intn(2) == 0 {
			t.Set(name, g.word())
		}
	}
	return t
}

// wraps is an error that wraps another one.
type wraps struct{ error }

func (w wraps) Unwrap() error { return w.error }

// rough is an error that panics, when it is asked what it wraps.
type rough struct{ error }

func (rough) Unwrap() error { panic("Unwrap") }

func (g gen) err() error {
	w := &report.Wrong{Part: g.number(), Line: g.number(), Code: api.Errno(g.number())}
	var none *report.Wrong
	return []error{nil, w, none, wraps{w}, wraps{wraps{none}}, wraps{}, errors.Join(errors.New("x"), w), api.OK, api.ErrForm, errors.New("x"), fmt.Errorf("y: %w", w), wraps{rough{}}}[g.Intn(12)]
}

// asks: a function that looks at records.
func (g gen) asks() func(api.Rec) bool {
	at := g.word()
	return []func(api.Rec) bool{
		nil,
		func(api.Rec) bool { panic("asked") },
		func(api.Rec) bool { return true },
		func(r api.Rec) bool { return r.Addr >= at },
	}[g.Intn(4)]
}

// snapshot: bytes of a machine, or of nearly one.
func (g gen) snapshot() []byte {
	b := snap.Put(g.machine())
	if g.Intn(2) == 0 {
		b[g.Intn(len(b))] ^= byte(1 << g.Intn(8))
	}
	return b
}

// of: a value of a type.
func (g gen) of(t reflect.Type) reflect.Value {
	var x any
	switch t {
	case reflect.TypeFor[*machine.Machine]():
		x = []*machine.Machine{nil, {}, g.machine(), g.machine(), g.machine(), g.machine()}[g.Intn(6)]
	case reflect.TypeFor[*ram.Ram]():
		x = []*ram.Ram{nil, {}, g.ram(), g.ram()}[g.Intn(4)]
	case reflect.TypeFor[*symbols.Table]():
		x = g.table()
	case reflect.TypeFor[api.Inst]():
		x = g.inst()
	case reflect.TypeFor[asm.Program]():
		x = g.program()
	case reflect.TypeFor[srec.Piece]():
		x = g.piece()
	case reflect.TypeFor[cpu.State]():
		x = g.state()
	case reflect.TypeFor[post.Post]():
		x = post.Of(byte(g.Intn(256)))
	case reflect.TypeFor[func(api.Rec) bool]():
		x = g.asks()
	case reflect.TypeFor[cpu.Memory]():
		return g.within(t, g.memory())
	case reflect.TypeFor[error]():
		return g.within(t, g.err())
	default:
		return g.fill(t)
	}
	return reflect.ValueOf(x)
}

// within: a value of an interface type; nil is one, too.
func (g gen) within(t reflect.Type, x any) reflect.Value {
	v := reflect.New(t).Elem()
	if x != nil {
		v.Set(reflect.ValueOf(x))
	}
	return v
}

// fill: a value of a type, made of what it has.
func (g gen) fill(t reflect.Type) reflect.Value {
	v := reflect.New(t).Elem()
	switch t.Kind() {
	case reflect.Bool:
		v.SetBool(g.Intn(3) == 0)
	case reflect.Uint8:
		v.SetUint(uint64([]int{0, 1, 127, 128, 255, g.Intn(256), g.Intn(256), g.Intn(256)}[g.Intn(8)]))
	case reflect.Uint16:
		v.SetUint(uint64(g.word()))
	case reflect.Uint64:
		v.SetUint(g.Uint64() >> g.Intn(64))
	case reflect.Int:
		v.SetInt(int64(g.number()))
	case reflect.String:
		v.SetString(g.text())
	case reflect.Slice:
		return g.list(t)
	case reflect.Array:
		for i := range v.Len() {
			v.Index(i).Set(g.of(t.Elem()))
		}
	case reflect.Struct:
		for i := range v.NumField() {
			v.Field(i).Set(g.of(t.Field(i).Type))
		}
	default:
		panic("no such argument: " + t.String())
	}
	return v
}

// list: none, an empty one, few, many.
func (g gen) list(t reflect.Type) reflect.Value {
	if t == reflect.TypeFor[[]byte]() {
		if g.Intn(6) == 0 {
			return reflect.ValueOf(g.snapshot())
		}
		return reflect.ValueOf(g.bytes([]int{5, 40, 300, 70000}[g.Intn(4)]))
	}
	n := []int{-1, 0, 1, 2, 3, 5, g.Intn(40), g.Intn(90)}[g.Intn(8)]
	if n < 0 {
		return reflect.Zero(t)
	}
	v := reflect.MakeSlice(t, 0, n+g.Intn(3))
	for range n {
		v = reflect.Append(v, g.of(t.Elem()))
	}
	return v
}

// makers: of each type that has methods, one that is made as its chapter says.
func makers() map[string]func(g gen) any {
	return map[string]func(g gen) any{
		"asm.Program": func(g gen) any { return g.program() },
		"core.Core": func(g gen) any {
			return core.New(g.fill(reflect.TypeFor[api.Regs]()).Interface().(api.Regs))
		},
		"cpu.Cpu": func(g gen) any {
			m := g.machine()
			c, e := cpu.Restore(m.Config().Kind, m.State())
			if e != api.OK {
				panic(e)
			}
			return c
		},
		"file.File":       func(g gen) any { return &file.File{Regs: g.fill(reflect.TypeFor[api.Regs]()).Interface().(api.Regs)} },
		"machine.Machine": func(g gen) any { return g.machine() },
		"monitor.Monitor": func(g gen) any {
			return monitor.New(g.of(reflect.TypeFor[*machine.Machine]()).Interface().(*machine.Machine))
		},
		"post.Post": func(g gen) any { return post.Of(byte(g.Intn(256))) },
		"prof.Prof": func(g gen) any { return &prof.Prof{} },
		"queue.Queue": func(g gen) any {
			q, _ := queue.Of(g.Perm(g.Intn(25))...)
			return []any{q, &queue.Queue[int]{}}[g.Intn(2)]
		},
		"ram.Ram":       func(g gen) any { return g.ram() },
		"report.Wrong":  func(g gen) any { return &report.Wrong{Part: g.number(), Line: g.number(), Code: api.Errno(g.number())} },
		"ring.Ring":     func(g gen) any { return ring.New(g.number()) },
		"slice.Part":    func(g gen) any { return g.fill(reflect.TypeFor[slice.Part]()).Interface() },
		"srec.Line":     func(g gen) any { return g.fill(reflect.TypeFor[srec.Line]()).Interface() },
		"symbols.Table": func(g gen) any { return g.table() },
		"watch.Watch":   func(g gen) any { return &watch.Watch{} },
	}
}

// args: those of a function; a list of what comes last, if it takes any many.
func (g gen) args(name string, t reflect.Type, from int) []reflect.Value {
	var out []reflect.Value
	for i := from; i < t.NumIn(); i++ {
		v := g.of(t.In(i))
		switch name {
		case "fast.Many", "dis.Lines", "machine.Machine.Steps":
			if t.In(i).Kind() == reflect.Int {
				v = reflect.ValueOf(g.count())
			}
		}
		out = append(out, v)
	}
	return out
}

// call: a function, or a method; what it takes any many of is a list.
func call(f reflect.Value, args []reflect.Value) []reflect.Value {
	if f.Type().IsVariadic() {
		return f.CallSlice(args)
	}
	return f.Call(args)
}

// shown: a value as a text, with all that is in it and behind it. Lists without anything are alike.
func shown(v ...reflect.Value) string {
	var out strings.Builder
	for _, x := range v {
		show(&out, x)
		out.WriteByte('\n')
	}
	return out.String()
}

func show(out *strings.Builder, v reflect.Value) {
	switch v.Kind() {
	case reflect.Invalid:
		out.WriteString("nil")
	case reflect.Pointer, reflect.Interface:
		if v.IsNil() {
			out.WriteString("nil")
			return
		}
		out.WriteString("&")
		show(out, v.Elem())
	case reflect.Struct:
		for i := range v.NumField() {
			show(out, v.Field(i))
			out.WriteByte(';')
		}
	case reflect.Slice, reflect.Array:
		if v.Type().Elem().Kind() == reflect.Uint8 && (v.Kind() == reflect.Slice || v.CanAddr()) {
			fmt.Fprintf(out, "%d:%x", v.Len(), v.Bytes())
			return
		}
		for i := range v.Len() {
			show(out, v.Index(i))
			out.WriteByte(',')
		}
	case reflect.Map:
		// In the order of their texts, not in the map's.
		var all []string
		for it := v.MapRange(); it.Next(); {
			all = append(all, shown(it.Key(), it.Value()))
		}
		for len(all) > 0 {
			least := 0
			for i := range all {
				if all[i] < all[least] {
					least = i
				}
			}
			out.WriteString(all[least])
			all = append(all[:least], all[least+1:]...)
		}
	case reflect.Func:
		showFunc(out, v)
	case reflect.String:
		fmt.Fprintf(out, "%q", v.String())
	default:
		fmt.Fprintf(out, "%v", v)
	}
}

// showFunc: what a function goes through, if that is what it does.
func showFunc(out *strings.Builder, v reflect.Value) {
	if v.IsNil() || !v.Type().CanSeq() || !v.CanInterface() {
		out.WriteString("func")
		return
	}
	for x := range v.Seq() {
		show(out, x)
		out.WriteByte(',')
	}
}

// spoil: other things in all lists that are in values, and in what these have.
func spoil(l ...reflect.Value) {
	for _, v := range l {
		switch v.Kind() {
		case reflect.Struct:
			for i := range v.NumField() {
				if v.Type().Field(i).IsExported() {
					spoil(v.Field(i))
				}
			}
		case reflect.Slice:
			// Up to its room's end: what is appended to a list must not lie in another one's.
			v = v.Slice(0, v.Cap())
			if v.Type().Elem().Kind() == reflect.Uint8 {
				for i := range v.Bytes() {
					v.Bytes()[i] ^= 0xEE
				}
				continue
			}
			for i := range v.Len() {
				spoil(v.Index(i))
				v.Index(i).Set(junk(v.Type().Elem()))
			}
		}
	}
}

// junk: a value of a type that nothing would answer.
func junk(t reflect.Type) reflect.Value {
	v := reflect.New(t).Elem()
	switch t.Kind() {
	case reflect.Bool:
		v.SetBool(true)
	case reflect.Uint8, reflect.Uint16, reflect.Uint64:
		v.SetUint(0xEE)
	case reflect.Int:
		v.SetInt(-7777)
	case reflect.String:
		v.SetString("junk")
	case reflect.Struct:
		for i := range v.NumField() {
			if t.Field(i).IsExported() {
				v.Field(i).Set(junk(t.Field(i).Type))
			}
		}
	}
	return v
}

// long: texts of a great length, of some part again and again.
func long() []string {
	var out []string
	for _, s := range append([]string{"1+", "+", "--", "a", "Z", "0", "9", "F", "S1", " ", "\n", ".", ".*1 ", "A,", "[", ",X", "LDA #5\n", " NOP\n", "x: \n", "S9030000FC\n", "#_", "\xff", "r "}, fields...) {
		out = append(out, strings.Repeat(s, 1<<17))
	}
	return append(out, string(bytes.Repeat([]byte{0}, 1<<20)))
}
