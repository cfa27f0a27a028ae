package core

import (
	"slices"

	"spinet/api"
	"spinet/flags"
	"spinet/frame"
	"spinet/lists"
	"spinet/octet"
	"spinet/ops"
	"spinet/rows"
)

// nowhere is the address of a cycle that does nothing on the bus.
const nowhere = 0xFFFF

// The postbytes of what is pulled without one.
const (
	listCodes = 1   // CC
	listRest  = 254 // all but CC
	listWay   = 128 // PC
)

// address: where a cycle of a kind reads, or writes.
func (c *Core) address(kind int) uint16 {
	switch kind {
	case api.KindOp, api.KindArg, api.KindNext:
		return c.PC
	case api.KindPtr, api.KindLoad, api.KindStore:
		return c.to + c.moved
	case api.KindPeek:
		return c.to
	case api.KindPush:
		return c.Get(c.stack()) - 1
	case api.KindPull, api.KindLook:
		return c.Get(c.stack())
	case api.KindVec:
		return c.enter.Vector + c.moved
	}
	return nowhere
}

// move: what a cycle of a kind leaves behind, with the byte that it read.
func (c *Core) move(kind int, in byte) {
	switch kind {
	case api.KindOp:
		c.PC++
		c.takeCode(in)
	case api.KindArg:
		c.PC++
		c.takeArg(in)
	case api.KindPtr:
		c.take(in)
		if c.moved == 2 {
			c.to, c.moved = c.word, 0
		}
	case api.KindLoad:
		c.take(in)
		switch ops.Group(c.inst.Entry.Op) {
		case ops.GroupChange, ops.GroupTest:
			c.changeByte(in)
		}
	case api.KindVec:
		c.take(in)
	case api.KindStore:
		c.out.Pop()
		c.moved++
	case api.KindPush:
		c.parts.Pop()
		c.Set(c.stack(), c.Get(c.stack())-1)
	case api.KindPull:
		c.pull(in)
	}
}

// take: another byte of a word came, behind the one ahead.
func (c *Core) take(in byte) {
	c.word = octet.Word(octet.Low(c.word), in)
	c.moved++
}

// stack: the stack's register.
func (c *Core) stack() int {
	switch c.inst.Entry.Op {
	case api.OpPsh, api.OpPul:
		return c.inst.Entry.Reg
	}
	return api.RegS
}

// pull: a byte came from the stack, for the register whose turn it is.
func (c *Core) pull(in byte) {
	part, _ := c.parts.Pop()
	c.Regs = lists.With(c.Regs, part, in)
	c.Set(c.stack(), c.Get(c.stack())+1)
	if c.inst.Entry.Op == api.OpRti && part.Reg == api.RegCC {
		c.pullRest(in)
	}
}

// pullRest: the codes that RTI pulled tell what else it pulls.
func (c *Core) pullRest(pulled byte) {
	c.steps.Push(rows.Rest(pulled)...)
	if flags.Has(pulled, api.E) {
		c.pullList(listRest)
	} else {
		c.pullList(listWay)
	}
}

// pullList: the registers of a postbyte are still to be pulled.
func (c *Core) pullList(post byte) { c.parts.Push(lists.Order(post, c.stack())...) }

// pushList: the registers of a postbyte are still to be pushed.
func (c *Core) pushList(post byte) {
	l := lists.Order(post, c.stack())
	slices.Reverse(l)
	c.parts.Push(l...)
}

// pushFrame: what an interrupt pushes is still to be pushed, with its codes.
func (c *Core) pushFrame() {
	c.CC = c.enter.Pushed
	c.parts.Push(frame.Parts(c.enter.Whole)...)
}
