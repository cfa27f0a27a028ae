package core

import (
	"spinet/api"
	"spinet/flags"
	"spinet/frame"
	"spinet/index"
	"spinet/logic"
	"spinet/octet"
	"spinet/ops"
	"spinet/page"
	"spinet/phase"
	"spinet/post"
	"spinet/rows"
	"spinet/wide"
)

// takeCode: a prefix, or the opcode, was read.
func (c *Core) takeCode(b byte) {
	c.inst.Len++
	if p := page.Prefix(b); p > 0 && c.inst.Page == 1 {
		c.inst.Page = p
		c.steps.Push(phase.Some(api.KindOp, 1)...)
		return
	}
	c.inst.Code, c.inst.Entry = b, page.Of(c.inst.Page, b)
	c.steps.Push(phase.Ahead(c.inst.Entry.Mode)...)
	if !c.posted() {
		c.pushTail()
	}
	c.begun()
}

// takeArg: a byte behind the opcode was read: the postbyte, or one of the value.
func (c *Core) takeArg(b byte) {
	c.inst.Len++
	c.args++
	if c.args > 1 || !c.posted() {
		c.inst.Value = octet.Word(octet.Low(c.inst.Value), b)
	} else {
		c.takePost(b)
	}
	c.begun()
}

// takePost: the postbyte was read, on which all cycles behind it hang.
func (c *Core) takePost(b byte) {
	c.inst.Post = b
	if c.inst.Entry.Mode == api.ModeIdx {
		c.steps.Push(phase.Behind(post.Of(b))...)
	}
	c.pushTail()
}

// posted: has the instruction a postbyte?
func (c *Core) posted() bool {
	switch c.inst.Entry.Mode {
	case api.ModeIdx, api.ModePair, api.ModeMany:
		return true
	}
	return false
}

// pushTail: the cycles behind the instruction's bytes and its address are still to come.
func (c *Core) pushTail() {
	c.steps.Push(rows.Tail(c.inst.Entry, c.inst.Post, c.CC)...)
}

// begun: if all bytes of the instruction are read, its address is made, and what it writes is laid out.
func (c *Core) begun() {
	if next, _ := c.steps.Peek(); next.Kind == api.KindArg {
		return
	}
	if c.short() {
		c.inst.Value = octet.Sign(octet.Low(c.inst.Value))
	}
	switch c.inst.Entry.Mode {
	case api.ModeImm, api.ModeImmw:
		c.word = c.inst.Value
	case api.ModeRel, api.ModeRelw:
		c.to = c.PC + c.inst.Value
	}
	if to, r, ok := index.Inst(c.inst, c.Regs, c.ahead.PC); ok {
		c.to, c.Regs = to, r
	}
	c.prepare()
}

// short: is the value an offset of one byte, whose sign is kept?
func (c *Core) short() bool {
	switch c.inst.Entry.Mode {
	case api.ModeRel:
		return true
	case api.ModeIdx:
		return post.Of(c.inst.Post).Bytes() == 1
	}
	return false
}

// prepare: what the instruction stores, pushes or pulls is laid out.
func (c *Core) prepare() {
	e := c.inst.Entry
	switch ops.Group(e.Op) {
	case ops.GroupWrite:
		b := octet.Low(c.Get(e.Reg))
		c.CC = logic.Tst(b, c.CC)
		c.out.Push(b)
	case ops.GroupStorew:
		w := c.Get(e.Reg)
		c.CC = wide.Tst(w, c.CC)
		c.out.Push(octet.Bytes(w)...)
	case ops.GroupCall:
		c.pushList(listWay)
	}
	switch e.Op {
	case api.OpBsr, api.OpLbsr:
		c.pushList(listWay)
	case api.OpPsh:
		c.pushList(c.inst.Post)
	case api.OpPul:
		c.pullList(c.inst.Post)
	case api.OpRts:
		c.pullList(listWay)
	case api.OpRti:
		c.pullList(listCodes)
	case api.OpSwi:
		c.enter, _ = frame.Soft(e.Reg, c.CC)
		c.pushFrame()
	case api.OpCwai:
		c.CC = flags.With(c.CC, false, ^octet.Low(c.word))
		c.CC = flags.With(c.CC, true, api.E)
		c.parts.Push(frame.Parts(true)...)
	}
}
