package core_test

import (
	"math/rand"
	"slices"
	"testing"

	"spinet/alu"
	"spinet/api"
	"spinet/cond"
	"spinet/core"
	"spinet/decimal"
	"spinet/frame"
	"spinet/index"
	"spinet/inst"
	"spinet/lists"
	"spinet/logic"
	"spinet/ops"
	"spinet/page"
	"spinet/post"
	"spinet/rows"
	"spinet/table"
	"spinet/times"
	"spinet/wide"
)

// model reckons a row at once: first what it does where, then its cycles.
type model struct {
	m      memory
	at     uint16           // where the instruction stands
	regs   api.Regs         // then
	reads  map[int][]uint16 // by the kinds of cycles: the addresses, in order
	bytes  map[int][]byte   // and the bytes that are written there
	vector uint16
	end    int
	loads  bool
	resets bool
	soft   bool
	then   byte // the codes behind an interrupt
}

func newModel(m memory, r api.Regs) *model {
	return &model{m: m, at: r.PC, regs: r, reads: map[int][]uint16{}, bytes: map[int][]byte{}, end: core.Ends}
}

// two: a word's bytes, the high one first.
func two(w uint16) []byte { return []byte{byte(w / 256), byte(w % 256)} }

// get and set: a register by its letter's code.
func (o *model) get(reg int) uint16 {
	r := o.regs
	switch reg {
	case api.RegA:
		return uint16(r.A)
	case api.RegB:
		return uint16(r.B)
	case api.RegD:
		return uint16(r.A)*256 + uint16(r.B)
	}
	return map[int]uint16{api.RegX: r.X, api.RegY: r.Y, api.RegU: r.U, api.RegS: r.S}[reg]
}

func (o *model) set(reg int, w uint16) {
	r := &o.regs
	switch reg {
	case api.RegA:
		r.A = byte(w)
	case api.RegB:
		r.B = byte(w)
	case api.RegD:
		r.A, r.B = byte(w/256), byte(w%256)
	case api.RegX:
		r.X = w
	case api.RegY:
		r.Y = w
	case api.RegU:
		r.U = w
	case api.RegS:
		r.S = w
	}
}

// push: bytes go onto a stack, the first one first.
func (o *model) push(stack int, b ...byte) {
	for _, x := range b {
		o.set(stack, o.get(stack)-1)
		o.reads[api.KindPush] = append(o.reads[api.KindPush], o.get(stack))
		o.bytes[api.KindPush] = append(o.bytes[api.KindPush], x)
	}
}

// pushAll: all registers but S go onto it, with these codes.
func (o *model) pushAll(cc byte) {
	r := o.regs
	b := slices.Concat([]byte{cc, r.A, r.B, r.DP}, two(r.X), two(r.Y), two(r.U), two(r.PC))
	slices.Reverse(b)
	o.push(api.RegS, b...)
}

// pull: a byte comes from a stack.
func (o *model) pull(stack int) byte {
	at := o.get(stack)
	o.reads[api.KindPull] = append(o.reads[api.KindPull], at)
	o.set(stack, at+1)
	return o.m.read(at)
}

func (o *model) pullWord(stack int) uint16 {
	hi := o.pull(stack)
	return uint16(hi)*256 + uint16(o.pull(stack))
}

// pullList: the registers of a postbyte come from a stack.
func (o *model) pullList(b byte, stack int) {
	r := &o.regs
	if b&1 > 0 {
		r.CC = o.pull(stack)
	}
	if b&2 > 0 {
		r.A = o.pull(stack)
	}
	if b&4 > 0 {
		r.B = o.pull(stack)
	}
	if b&8 > 0 {
		r.DP = o.pull(stack)
	}
	if b&16 > 0 {
		r.X = o.pullWord(stack)
	}
	if b&32 > 0 {
		r.Y = o.pullWord(stack)
	}
	if b&64 > 0 {
		// The other one's pointer.
		o.set(api.RegU+api.RegS-stack, o.pullWord(stack))
	}
	if b&128 > 0 {
		r.PC = o.pullWord(stack)
	}
}

// pushList: they go onto one.
func (o *model) pushList(b byte, stack int) {
	r := o.regs
	var out []byte
	parts := [][]byte{{r.CC}, {r.A}, {r.B}, {r.DP}, two(r.X), two(r.Y), two(o.get(api.RegU + api.RegS - stack)), two(r.PC)}
	for i, p := range parts {
		if b>>i&1 > 0 {
			out = append(out, p...)
		}
	}
	slices.Reverse(out)
	o.push(stack, out...)
}

// call: PC goes onto the stack, and is elsewhere then.
func (o *model) call(to uint16) {
	o.push(api.RegS, byte(o.regs.PC%256), byte(o.regs.PC/256))
	o.reads[api.KindPeek] = []uint16{to}
	o.regs.PC = to
}

// enter: an interrupt, of which frame tells the codes.
func (o *model) enter(e frame.Enter, pushes bool) {
	if pushes && e.Whole {
		o.pushAll(e.Pushed)
	} else if pushes {
		o.push(api.RegS, byte(o.regs.PC%256), byte(o.regs.PC/256), e.Pushed)
	}
	o.vector, o.soft, o.then = e.Vector, true, e.Then
	o.reads[api.KindVec] = []uint16{e.Vector, e.Vector + 1}
}

// operand: the address of an instruction's operand, and how it is come by.
func (o *model) operand(i api.Inst) uint16 {
	to, r, ok := index.Inst(i, o.regs, o.at)
	if !ok {
		return 0
	}
	o.regs = r
	if i.Entry.Mode == api.ModeIdx && post.Of(i.Post).Indirect {
		o.reads[api.KindPtr] = []uint16{to, to + 1}
		return o.m.word(to)
	}
	return to
}

// eight: operations of A or B, and an operand's byte.
func (o *model) eight(e api.Entry, b byte) {
	r, cc, _ := alu.Eight(e.Op, byte(o.get(e.Reg)), b, o.regs.CC)
	o.set(e.Reg, uint16(r))
	o.regs.CC = cc
}

// sixteen: operations with words.
func (o *model) sixteen(e api.Entry, w uint16) {
	r, cc, _ := alu.Word(e.Op, o.get(e.Reg), w, o.regs.CC)
	o.set(e.Reg, r)
	o.regs.CC = cc
	o.loads = e.Op == api.OpLdw && e.Reg == api.RegS
}

// inMemory: what is done with an operand that stands at an address.
func (o *model) inMemory(e api.Entry, to uint16) {
	switch e.Op {
	case api.OpSt:
		b := byte(o.get(e.Reg))
		o.reads[api.KindStore], o.bytes[api.KindStore] = []uint16{to}, []byte{b}
		o.regs.CC = logic.Tst(b, o.regs.CC)
	case api.OpStw:
		w := o.get(e.Reg)
		o.reads[api.KindStore], o.bytes[api.KindStore] = []uint16{to, to + 1}, two(w)
		o.regs.CC = wide.Tst(w, o.regs.CC)
	case api.OpLdw, api.OpAddw, api.OpSubw, api.OpCmpw:
		o.reads[api.KindLoad] = []uint16{to, to + 1}
		o.sixteen(e, o.m.word(to))
	case api.OpLea:
		o.set(e.Reg, to)
		o.loads = e.Reg == api.RegS
		if e.Reg == api.RegX || e.Reg == api.RegY {
			o.regs.CC = wide.Lea(to, o.regs.CC)
		}
	case api.OpJmp:
		o.regs.PC = to
	case api.OpJsr:
		o.call(to)
	case api.OpTst:
		o.reads[api.KindLoad] = []uint16{to}
		o.regs.CC = logic.Tst(o.m.read(to), o.regs.CC)
	case api.OpNeg, api.OpCom, api.OpLsr, api.OpRor, api.OpAsr, api.OpAsl, api.OpRol, api.OpDec, api.OpInc, api.OpClr:
		r, cc, _ := alu.Change(e.Op, o.m.read(to), o.regs.CC)
		o.reads[api.KindLoad], o.reads[api.KindStore], o.bytes[api.KindStore] = []uint16{to}, []uint16{to}, []byte{r}
		o.regs.CC = cc
	default:
		o.reads[api.KindLoad] = []uint16{to}
		o.eight(e, o.m.read(to))
	}
}

// immediate: what is done with a byte behind the opcode.
func (o *model) immediate(e api.Entry, b byte) {
	switch e.Op {
	case api.OpOrcc:
		o.regs.CC |= b
	case api.OpAndcc:
		o.regs.CC &= b
	case api.OpCwai:
		o.regs.CC = o.regs.CC&b | 128
		o.pushAll(o.regs.CC)
		o.end = core.Cwai
	default:
		o.eight(e, b)
	}
}

// alone: what is done without an operand.
func (o *model) alone(e api.Entry) {
	r := &o.regs
	switch e.Op {
	case api.OpSync:
		o.end = core.Sync
	case api.OpAbx:
		r.X += uint16(r.B)
	case api.OpDaa:
		r.A, r.CC = decimal.Daa(r.A, r.CC)
	case api.OpSex:
		w, cc := wide.Sex(r.B, r.CC)
		r.A, r.CC = byte(w/256), cc
	case api.OpMul:
		w, cc := times.Mul(r.A, r.B, r.CC)
		r.A, r.B, r.CC = byte(w/256), byte(w%256), cc
	case api.OpRts:
		r.PC = o.pullWord(api.RegS)
	case api.OpRti:
		o.pullList(1, api.RegS)
		if r.CC >= 128 {
			o.pullList(254, api.RegS)
		} else {
			o.pullList(128, api.RegS)
		}
	case api.OpSwi:
		enter, _ := frame.Soft(e.Reg, r.CC)
		o.enter(enter, true)
	case api.OpNone, api.OpNop:
	default:
		a, cc, _ := alu.Change(e.Op, byte(o.get(e.Reg)), r.CC)
		o.set(e.Reg, uint16(a))
		r.CC = cc
	}
}

// transfer: TFR and EXG, by the codes of the halves; what is no register tells 65535.
func (o *model) transfer(e api.Entry, b byte) {
	high, low := int(b/16), int(b%16)
	a, z := o.told(high), o.told(low)
	o.put(low, a)
	o.loads = low == api.RegS
	if e.Op == api.OpExg {
		o.put(high, z)
		o.loads = o.loads || high == api.RegS
	}
}

func (o *model) told(code int) uint16 {
	switch code {
	case 0, 1, 2, 3, 4:
		return o.get(code)
	case 5:
		return o.regs.PC
	case 8:
		return 0xFF00 + uint16(o.regs.A)
	case 9:
		return 0xFF00 + uint16(o.regs.B)
	case 10:
		return 0xFF00 + uint16(o.regs.CC)
	case 11:
		return 0xFF00 + uint16(o.regs.DP)
	}
	return 65535
}

func (o *model) put(code int, w uint16) {
	switch code {
	case 5:
		o.regs.PC = w
	case 10:
		o.regs.CC = byte(w)
	case 11:
		o.regs.DP = byte(w)
	default:
		o.set(code, w)
	}
}

// branch: what goes by an offset.
func (o *model) branch(e api.Entry, to uint16) {
	switch e.Op {
	case api.OpBsr, api.OpLbsr:
		o.call(to)
	case api.OpLbra:
		o.regs.PC = to
	default:
		if cond.Holds(e.Reg, o.regs.CC) {
			o.regs.PC = to
		}
	}
}

// instruction: what the instruction at PC does.
func (o *model) instruction(i api.Inst) {
	to := o.operand(i)
	o.regs.PC = inst.Next(i, o.at)
	switch i.Entry.Mode {
	case api.ModeDir, api.ModeExt, api.ModeIdx:
		o.inMemory(i.Entry, to)
	case api.ModeImm:
		o.immediate(i.Entry, byte(i.Value))
	case api.ModeImmw:
		o.sixteen(i.Entry, i.Value)
	case api.ModeInh:
		o.alone(i.Entry)
	case api.ModeRel, api.ModeRelw:
		to, _ := inst.Target(i, o.at)
		o.branch(i.Entry, to)
	case api.ModePair:
		o.transfer(i.Entry, i.Post)
	case api.ModeMany:
		if i.Entry.Op == api.OpPsh {
			o.reads[api.KindLook] = []uint16{o.get(i.Entry.Reg)}
			o.pushList(i.Post, i.Entry.Reg)
		} else {
			o.pullList(i.Post, i.Entry.Reg)
			o.reads[api.KindLook] = []uint16{o.get(i.Entry.Reg)}
			o.loads = i.Entry.Reg == api.RegU && i.Post&64 > 0
		}
	}
	if i.Entry.Op == api.OpRti {
		o.reads[api.KindLook] = []uint16{o.regs.S}
	}
}

// cycles: the row's cycles one by one, over the memory.
func (o *model) cycles(t *testing.T, steps []api.Step) []cycle {
	t.Helper()
	var out []cycle
	pc := o.at
	for n, s := range steps {
		b := core.Bus{Read: true, BUSY: s.Busy, BS: s.Kind == api.KindVec}
		switch s.Kind {
		case api.KindIdle:
			b.Addr = 65535
		case api.KindNext:
			b.Addr = pc
		case api.KindOp, api.KindArg:
			b.Addr = pc
			pc++
		default:
			l := o.reads[s.Kind]
			if len(l) == 0 {
				t.Fatalf("the model has no address for the cycle %d of %+v", n, steps)
			}
			b.Addr, o.reads[s.Kind] = l[0], l[1:]
			if w := o.bytes[s.Kind]; len(w) > 0 {
				b.Read, b.Data, o.bytes[s.Kind] = false, w[0], w[1:]
				o.m.write(b.Addr, b.Data)
			}
		}
		var sign core.Sign
		if n == len(steps)-1 {
			on := o.end == core.Ends
			sign = core.Sign{LIC: on, AVMA: on, End: o.end, Loads: o.loads}
		} else {
			sign.AVMA = steps[n+1].Kind != api.KindIdle
		}
		out = append(out, cycle{b, sign})
	}
	for kind, l := range o.reads {
		if len(l) > 0 {
			t.Fatalf("the model has more addresses for the kind %d than %+v", kind, steps)
		}
	}
	o.leave()
	return out
}

// leave: what an interrupt leaves. What it pushed may lie over its vector.
func (o *model) leave() {
	if o.soft {
		o.regs.CC, o.regs.PC = o.then, o.m.word(o.vector)
	}
	if o.resets {
		o.regs.DP = 0
	}
}

// expect: the cycles of a row, and the registers then.
func expect(t *testing.T, kind int, r api.Regs, m memory) ([]cycle, api.Regs) {
	t.Helper()
	o := newModel(m, r)
	if kind != api.RowInst {
		e, _ := frame.Of(kind, r.CC)
		o.resets = kind == api.RowReset
		o.enter(e, kind == api.RowNmi || kind == api.RowFirq || kind == api.RowIrq)
		return o.cycles(t, rows.Row(kind)), o.regs
	}
	i, e := inst.Of(m.read(r.PC), m.read(r.PC+1), m.read(r.PC+2), m.read(r.PC+3), m.read(r.PC+4))
	if e != api.OK {
		t.Fatalf("an instruction is too long: %d", e)
	}
	pulled := m.read(r.S)
	o.instruction(i)
	steps := rows.Of(i, r.CC, pulled)
	if i.Entry.Op != api.OpRti {
		pulled = 0
	}
	if n := table.Of(i, r.CC, pulled); n != len(steps) {
		t.Fatalf("%+v: %d cycles, not %d", i, len(steps), n)
	}
	return o.cycles(t, steps), o.regs
}

// compare: does a row do what the model does?
func compare(t *testing.T, kind int, regs api.Regs, m memory, r *rand.Rand) {
	t.Helper()
	n := m.copy()
	want, then := expect(t, kind, regs, n)
	c := core.New(regs)
	own := m.copy()
	got := play(t, c, kind, own, r)
	if !slices.Equal(got, want) {
		t.Fatalf("row %d at % X, %+v:\n%+v, not\n%+v", kind, []byte{m.read(regs.PC), m.read(regs.PC + 1), m.read(regs.PC + 2)}, regs, got, want)
	}
	if c.Now() != then || c.Regs != then {
		t.Fatalf("row %d at % X, %+v:\n%+v, not\n%+v", kind, []byte{m.read(regs.PC), m.read(regs.PC + 1), m.read(regs.PC + 2)}, regs, c.Now(), then)
	}
}

// All opcodes of all pages, with all bytes behind them.
func TestP27_3AllInstructions(t *testing.T) {
	r := rand.New(rand.NewSource(27))
	base := noise(r)
	for p := 1; p <= 3; p++ {
		for code := range 256 {
			if page.Prefix(byte(code)) > 0 && p == 1 {
				continue
			}
			begin := [][]byte{{byte(code)}, {0x10, byte(code)}, {0x11, byte(code)}}[p-1]
			for behind := range 256 {
				regs := anyRegs(r)
				m := over(base)
				for i, b := range append(slices.Clone(begin), byte(behind)) {
					m.write(regs.PC+uint16(i), b)
				}
				if behind == 0 {
					// What reads or writes the instruction's own bytes is no other thing.
					regs.X, regs.Y, regs.U, regs.S = regs.PC, regs.PC, regs.PC, regs.PC
				}
				compare(t, api.RowInst, regs, m, r)
			}
		}
	}
}

// All bytes of memory at any place, whatever they say.
func TestP27_3AnyInstructions(t *testing.T) {
	r := rand.New(rand.NewSource(28))
	for range 20 {
		base := noise(r)
		for range 2000 {
			compare(t, api.RowInst, anyRegs(r), over(base), r)
		}
	}
}

// Rows that are no instructions, with all codes.
func TestP27_3Interrupts(t *testing.T) {
	r := rand.New(rand.NewSource(29))
	base := noise(r)
	for kind := api.RowNmi; kind <= api.RowIrqW; kind++ {
		for cc := range 256 {
			for range 8 {
				regs := anyRegs(r)
				regs.CC = byte(cc)
				if cc%4 == 0 {
					// What is pushed lies over the vectors.
					regs.S = uint16(cc / 8)
				}
				compare(t, kind, regs, over(base), r)
			}
		}
	}
}

// Software interrupts, CWAI and RTI near the ends of memory, with all codes ahead and all that are pulled.
func TestP27_3Stacks(t *testing.T) {
	r := rand.New(rand.NewSource(30))
	base := noise(r)
	for _, begin := range [][]byte{{0x3F}, {0x10, 0x3F}, {0x11, 0x3F}, {0x3C, 0x55}, {0x3C, 0xFF}, {0x3B}, {0x39}, {0x34, 0xFF}, {0x35, 0xFF}, {0x36, 0xFF}, {0x37, 0xFF}} {
		for n := range 256 {
			regs := anyRegs(r)
			regs.CC, regs.S, regs.U = byte(n), uint16(n*2)-200, 100-uint16(n)
			if regs.PC > 60000 || regs.PC < 1000 {
				regs.PC = 0x5000
			}
			m := over(base)
			for i, b := range begin {
				m.write(regs.PC+uint16(i), b)
			}
			m.write(regs.S, byte(255-n))
			compare(t, api.RowInst, regs, m, r)
		}
	}
}

// loading are the instructions that load S, written by hand: of pairs and lists see below.
var loading = [][]byte{{0x10, 0xCE}, {0x10, 0xDE}, {0x10, 0xEE}, {0x10, 0xFE}, {0x32}}

// loads: does an instruction of these bytes load S, by the document?
func loads(begin []byte, behind byte) bool {
	if len(begin) == 1 {
		switch begin[0] {
		case 0x1F:
			return behind&15 == 4
		case 0x1E:
			return behind&15 == 4 || behind>>4 == 4
		case 0x37:
			return behind&64 > 0
		}
	}
	for _, l := range loading {
		if slices.Equal(l, begin) {
			return true
		}
	}
	return false
}

func TestP27_4Loads(t *testing.T) {
	r := rand.New(rand.NewSource(31))
	for p := 1; p <= 3; p++ {
		for code := range 256 {
			if p == 1 && (code == 0x10 || code == 0x11) {
				continue
			}
			begin := [][]byte{{byte(code)}, {0x10, byte(code)}, {0x11, byte(code)}}[p-1]
			for behind := range 256 {
				m := holding(map[uint16][]byte{0x4000: append(slices.Clone(begin), byte(behind))})
				c := core.New(api.Regs{PC: 0x4000, S: 0x6000, U: 0x7000})
				got := play(t, c, api.RowInst, m, r)
				for n, x := range got {
					if want := n == len(got)-1 && loads(begin, byte(behind)); x.sign.Loads != want {
						t.Fatalf("% X %X: Loads is %v in the cycle %d", begin, behind, x.sign.Loads, n)
					}
				}
			}
		}
	}
	for kind := api.RowNmi; kind <= api.RowIrqW; kind++ {
		for _, x := range play(t, core.New(api.Regs{}), kind, holding(nil), r) {
			if x.sign.Loads {
				t.Errorf("a row %d loads S", kind)
			}
		}
	}
}

// SYNC's and CWAI's rows end so that the processor waits, all others at a boundary; idle cycles are told ahead.
func TestP27_4Ends(t *testing.T) {
	r := rand.New(rand.NewSource(32))
	for code := range 256 {
		m := holding(map[uint16][]byte{0x4000: {byte(code)}})
		got := play(t, core.New(api.Regs{PC: 0x4000, S: 0x6000}), api.RowInst, m, r)
		e := page.Of(1, byte(code))
		want := map[string]int{"SYNC": core.Sync, "CWAI": core.Cwai}[ops.Name(e.Op, e.Reg)]
		if want == 0 {
			want = core.Ends
		}
		for n, x := range got {
			last := n == len(got)-1
			if last && (x.sign.End != want || x.sign.LIC != (want == core.Ends) || x.sign.AVMA != (want == core.Ends)) {
				t.Errorf("%X ends with %+v", code, x.sign)
			}
			if !last && (x.sign.End != core.Goes || x.sign.LIC || x.sign.AVMA != (got[n+1].bus.Addr != 65535)) {
				t.Errorf("the cycle %d of %X: %+v, then %+v", n, code, x.sign, got[n+1].bus)
			}
		}
	}
}

// As many bytes are pushed as a postbyte says.
func TestP27_2Pushed(t *testing.T) {
	r := rand.New(rand.NewSource(33))
	for b := range 256 {
		m := holding(map[uint16][]byte{0x4000: {0x34, byte(b)}})
		got := play(t, core.New(api.Regs{PC: 0x4000, S: 0x6000}), api.RowInst, m, r)
		wrote := 0
		for _, x := range got {
			if !x.bus.Read {
				wrote++
			}
		}
		if wrote != lists.Count(byte(b)) || len(got) != 5+wrote {
			t.Errorf("PSHS of %X: %d bytes in %d cycles", b, wrote, len(got))
		}
	}
}
