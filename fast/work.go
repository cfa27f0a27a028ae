package fast

import (
	"slices"

	"spinet/alu"
	"spinet/api"
	"spinet/cond"
	"spinet/decimal"
	"spinet/file"
	"spinet/flags"
	"spinet/frame"
	"spinet/index"
	"spinet/inst"
	"spinet/lists"
	"spinet/logic"
	"spinet/octet"
	"spinet/ops"
	"spinet/post"
	"spinet/times"
	"spinet/wide"
)

const (
	listWay  = 128 // the postbyte of PC alone
	bitOther = 64  // the bit of a postbyte that stands for the other stack's pointer
)

// work is an instruction, or another row, while it is done. PC is behind the instruction already.
type work struct {
	file.File
	bus
	inst api.Inst
	at   uint16 // where the instruction stands
	to   uint16 // the operand's address, or where it goes
}

// aim: the operand's address is made, or where a branch goes.
func (w *work) aim() {
	if to, ok := inst.Target(w.inst, w.at); ok {
		w.to = to
		return
	}
	w.to, w.Regs, _ = index.Inst(w.inst, w.Regs, w.at)
	if w.inst.Entry.Mode == api.ModeIdx && post.Of(w.inst.Post).Indirect {
		w.to = w.word(w.to)
	}
}

// do: what the instruction does; did it load S?
func (w *work) do() bool {
	e := w.inst.Entry
	switch ops.Group(e.Op) {
	case ops.GroupRead:
		w.reckonByte()
	case ops.GroupWrite:
		b := octet.Low(w.Get(e.Reg))
		w.CC = logic.Tst(b, w.CC)
		w.write(w.to, b)
	case ops.GroupChange, ops.GroupTest:
		w.change()
	case ops.GroupLoadw, ops.GroupCalcw:
		w.reckonWord()
	case ops.GroupStorew:
		x := w.Get(e.Reg)
		w.CC = wide.Tst(x, w.CC)
		w.write(w.to, octet.Bytes(x)...)
	case ops.GroupLea:
		w.loadAddress()
	case ops.GroupJump:
		w.PC = w.to
	case ops.GroupCall:
		w.call()
	default:
		return w.doOther()
	}
	return e.Reg == api.RegS && (e.Op == api.OpLdw || e.Op == api.OpLea)
}

// doOther: do, of what is in no group.
func (w *work) doOther() bool {
	e := w.inst.Entry
	switch e.Op {
	case api.OpBr, api.OpLbr:
		if cond.Holds(e.Reg, w.CC) {
			w.PC = w.to
		}
	case api.OpLbra:
		w.PC = w.to
	case api.OpBsr, api.OpLbsr:
		w.call()
	case api.OpPsh:
		w.pushList(w.inst.Post)
	case api.OpPul:
		w.pullList(w.inst.Post, e.Reg)
		return e.Reg == api.RegU && flags.Has(w.inst.Post, bitOther)
	case api.OpTfr:
		return w.Tfr(w.inst.Post)
	case api.OpExg:
		return w.Exg(w.inst.Post)
	case api.OpRts:
		w.pullList(listWay, api.RegS)
	case api.OpRti:
		w.pullFrame()
	case api.OpSwi:
		enter, _ := frame.Soft(e.Reg, w.CC)
		w.pushFrame(enter)
		w.enter(enter)
	default:
		w.doAlone()
	}
	return false
}

// doAlone: do, of what looks at the registers alone, and at a byte behind its opcode.
func (w *work) doAlone() {
	b := octet.Low(w.inst.Value)
	switch w.inst.Entry.Op {
	case api.OpAbx:
		w.X = wide.Abx(w.X, w.B)
	case api.OpDaa:
		w.A, w.CC = decimal.Daa(w.A, w.CC)
	case api.OpSex:
		w.setD(wide.Sex(w.B, w.CC))
	case api.OpMul:
		w.setD(times.Mul(w.A, w.B, w.CC))
	case api.OpOrcc:
		w.CC = flags.With(w.CC, true, b)
	case api.OpAndcc:
		w.CC = flags.With(w.CC, false, ^b)
	case api.OpCwai:
		w.CC = flags.With(flags.With(w.CC, false, ^b), true, api.E)
		w.pushFrame(frame.Enter{Pushed: w.CC, Whole: true})
	}
}

// reckonByte: an operation of a register of eight bits and the operand.
func (w *work) reckonByte() {
	e := w.inst.Entry
	b := octet.Low(w.inst.Value)
	if e.Mode != api.ModeImm {
		b = w.read(w.to)
	}
	r, cc, written := alu.Eight(e.Op, octet.Low(w.Get(e.Reg)), b, w.CC)
	w.CC = cc
	if written {
		w.Set(e.Reg, uint16(r))
	}
}

// reckonWord: an operation of a register of sixteen bits and the operand.
func (w *work) reckonWord() {
	e := w.inst.Entry
	x := w.inst.Value
	if e.Mode != api.ModeImmw {
		x = w.word(w.to)
	}
	r, cc, written := alu.Word(e.Op, w.Get(e.Reg), x, w.CC)
	w.CC = cc
	if written {
		w.Set(e.Reg, r)
	}
}

// change: a byte in memory, or a register of eight bits, is changed, or looked at.
func (w *work) change() {
	e := w.inst.Entry
	b := octet.Low(w.Get(e.Reg))
	if e.Mode != api.ModeInh {
		b = w.read(w.to)
	}
	r, cc, written := alu.Change(e.Op, b, w.CC)
	w.CC = cc
	switch {
	case !written:
	case e.Mode == api.ModeInh:
		w.Set(e.Reg, uint16(r))
	default:
		w.write(w.to, r)
	}
}

// loadAddress: a register is the address.
func (w *work) loadAddress() {
	reg := w.inst.Entry.Reg
	w.Set(reg, w.to)
	if reg == api.RegX || reg == api.RegY {
		w.CC = wide.Lea(w.to, w.CC)
	}
}

// setD: D has a word, and the codes are these.
func (w *work) setD(x uint16, cc byte) {
	w.Set(api.RegD, x)
	w.CC = cc
}

// call: PC is pushed, and is elsewhere then.
func (w *work) call() {
	w.push(api.RegS, octet.Low(w.PC), octet.High(w.PC))
	w.PC = w.to
}

// enter: an interrupt goes where its vector says.
func (w *work) enter(e frame.Enter) { w.CC, w.PC = e.Then, w.word(e.Vector) }

// pushFrame: what an interrupt pushes.
func (w *work) pushFrame(e frame.Enter) { w.push(api.RegS, frame.Bytes(w.Regs, e)...) }

// pullFrame: what an interrupt pushed comes back; the codes, which come first, tell how much that is.
func (w *work) pullFrame() {
	b := []byte{w.read(w.S)}
	whole := flags.Has(b[0], api.E)
	for range frame.Parts(whole)[1:] {
		b = append(b, w.read(w.S+uint16(len(b))))
	}
	w.Regs, _ = frame.Back(w.Regs, b)
}

// push: bytes go onto a stack, the first one first.
func (w *work) push(stack int, b ...byte) {
	for _, x := range b {
		at := w.Get(stack) - 1
		w.write(at, x)
		w.Set(stack, at)
	}
}

// pushList: the registers of a postbyte go onto the instruction's stack.
func (w *work) pushList(list byte) {
	stack := w.inst.Entry.Reg
	l := lists.Order(list, stack)
	slices.Reverse(l)
	for _, p := range l {
		w.push(stack, lists.Byte(w.Regs, p))
	}
}

// pullList: they come from a stack.
func (w *work) pullList(list byte, stack int) {
	for _, p := range lists.Order(list, stack) {
		at := w.Get(stack)
		w.Regs = lists.With(w.Regs, p, w.read(at))
		w.Set(stack, at+1)
	}
}
