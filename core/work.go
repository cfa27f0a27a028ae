package core

import (
	"spinet/alu"
	"spinet/api"
	"spinet/cond"
	"spinet/decimal"
	"spinet/flags"
	"spinet/frame"
	"spinet/octet"
	"spinet/ops"
	"spinet/times"
	"spinet/wide"
)

// bitOther is the bit of a postbyte that stands for the other stack's pointer.
const bitOther = 64

// finish: what a row leaves in the registers, when all its cycles are done; did it load S?
func (c *Core) finish() bool {
	if c.enter != (frame.Enter{}) {
		c.leave()
		return false
	}
	e := c.inst.Entry
	switch ops.Group(e.Op) {
	case ops.GroupRead:
		c.reckonByte()
	case ops.GroupChange, ops.GroupTest:
		// What stands in memory has been changed already.
		if e.Mode == api.ModeInh {
			c.changeRegister()
		}
	case ops.GroupLoadw, ops.GroupCalcw:
		c.reckonWord()
	case ops.GroupLea:
		c.loadAddress()
	case ops.GroupJump, ops.GroupCall:
		c.PC = c.to
	default:
		return c.finishOther()
	}
	return e.Reg == api.RegS && (e.Op == api.OpLdw || e.Op == api.OpLea)
}

// finishOther: finish, of what is in no group.
func (c *Core) finishOther() bool {
	e, b := c.inst.Entry, octet.Low(c.word)
	switch e.Op {
	case api.OpBr, api.OpLbr:
		if cond.Holds(e.Reg, c.CC) {
			c.PC = c.to
		}
	case api.OpLbra, api.OpBsr, api.OpLbsr:
		c.PC = c.to
	case api.OpOrcc:
		c.CC = flags.With(c.CC, true, b)
	case api.OpAndcc:
		c.CC = flags.With(c.CC, false, ^b)
	case api.OpAbx:
		c.X = wide.Abx(c.X, c.B)
	case api.OpDaa:
		c.A, c.CC = decimal.Daa(c.A, c.CC)
	case api.OpSex:
		c.setD(wide.Sex(c.B, c.CC))
	case api.OpMul:
		c.setD(times.Mul(c.A, c.B, c.CC))
	case api.OpTfr:
		return c.Tfr(c.inst.Post)
	case api.OpExg:
		return c.Exg(c.inst.Post)
	case api.OpPul:
		return e.Reg == api.RegU && flags.Has(c.inst.Post, bitOther)
	}
	return false
}

// leave: an interrupt goes where its vector says.
func (c *Core) leave() {
	c.CC, c.PC = c.enter.Then, c.word
	if c.kind == api.RowReset {
		c.DP = 0
	}
}

// reckonByte: an operation of a register of eight bits and the operand.
func (c *Core) reckonByte() {
	e := c.inst.Entry
	r, cc, written := alu.Eight(e.Op, octet.Low(c.Get(e.Reg)), octet.Low(c.word), c.CC)
	c.CC = cc
	if written {
		c.Set(e.Reg, uint16(r))
	}
}

// reckonWord: an operation of a register of sixteen bits and the operand.
func (c *Core) reckonWord() {
	e := c.inst.Entry
	r, cc, written := alu.Word(e.Op, c.Get(e.Reg), c.word, c.CC)
	c.CC = cc
	if written {
		c.Set(e.Reg, r)
	}
}

// changeByte: the operand came, and is changed, to be stored where it was, or looked at.
func (c *Core) changeByte(b byte) {
	r, cc, written := alu.Change(c.inst.Entry.Op, b, c.CC)
	c.CC, c.moved = cc, 0
	if written {
		c.out.Push(r)
	}
}

// changeRegister: a register of eight bits is changed, or looked at.
func (c *Core) changeRegister() {
	e := c.inst.Entry
	r, cc, written := alu.Change(e.Op, octet.Low(c.Get(e.Reg)), c.CC)
	c.CC = cc
	if written {
		c.Set(e.Reg, uint16(r))
	}
}

// loadAddress: a register is the address.
func (c *Core) loadAddress() {
	reg := c.inst.Entry.Reg
	c.Set(reg, c.to)
	if reg == api.RegX || reg == api.RegY {
		c.CC = wide.Lea(c.to, c.CC)
	}
}

// setD: D has a word, and the codes are these.
func (c *Core) setD(w uint16, cc byte) {
	c.Set(api.RegD, w)
	c.CC = cc
}
