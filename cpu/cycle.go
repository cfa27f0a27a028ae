package cpu

import (
	"spinet/api"
	"spinet/arbiter"
	"spinet/core"
)

const (
	nowhere     = 0xFFFF // the address of a cycle in which nothing is asked of memory
	vectorReset = 0xFFFE
)

// Cycle: a cycle, with these pins: what is told of it.
func (c *Cpu) Cycle(p api.Pins, m Memory) api.Rec {
	// An edge of NMI is kept whoever has the bus.
	c.sample(p.Nmi)
	if p.Reset {
		return c.reset(m)
	}
	switch c.whose(c.kind, p.Req) {
	case arbiter.Granted:
		return api.Rec{Addr: nowhere, Read: true, BA: true, BS: true}
	case arbiter.Dead:
		return api.Rec{Addr: nowhere, Read: true}
	}
	return c.own(p, m)
}

// reset: a cycle in which RESET is active: what is under way is cut off.
func (c *Cpu) reset(m Memory) api.Rec {
	c.clear()
	c.rest(api.InReset)
	c.core = core.New(c.regs)
	return api.Rec{Addr: vectorReset, Data: read(m, vectorReset), Read: true, AVMA: true, Mine: true}
}

// own: a cycle that nobody else has.
func (c *Cpu) own(p api.Pins, m Memory) api.Rec {
	switch c.mode {
	case api.InSync:
		return c.waitSync(p, m)
	case api.InCwai:
		return c.waitCwai(p, m)
	case api.AtBoundary:
		if p.Halt {
			return api.Rec{Addr: nowhere, Read: true, BA: true, BS: true, LIC: true}
		}
		c.begin(c.first(p, c.regs.CC))
	case api.InReset:
		c.begin(api.RowReset)
	}
	return c.goOn(m)
}

// waitSync: a cycle of the wait behind SYNC.
func (c *Cpu) waitSync(p api.Pins, m Memory) api.Rec {
	if !c.wakes(p) {
		return api.Rec{Addr: nowhere, Read: true, BA: true, Mine: true}
	}
	c.mode = api.AtBoundary
	return api.Rec{Addr: nowhere, Data: read(m, nowhere), Read: true, LIC: true, AVMA: true, Mine: true}
}

// waitCwai: a cycle of the wait behind CWAI.
func (c *Cpu) waitCwai(p api.Pins, m Memory) api.Rec {
	kind, ends := c.behind(p, c.regs.CC)
	if ends {
		c.begin(kind)
	}
	return api.Rec{Addr: nowhere, Data: read(m, nowhere), Read: true, AVMA: ends, Mine: true}
}

// begin: a row begins.
func (c *Cpu) begin(kind int) {
	c.mode, c.row = api.InRow, kind
	c.core.Begin(kind)
	switch kind {
	case api.RowNmi, api.RowNmiW:
		c.take()
	}
}

// goOn: the next cycle of the row that is under way.
func (c *Cpu) goOn(m Memory) api.Rec {
	bus, _ := c.core.Want()
	data := bus.Data
	if bus.Read {
		data = read(m, bus.Addr)
	} else {
		write(m, bus.Addr, data)
	}
	sign, _ := c.core.Tick(data)
	c.log = append(c.log, data)
	if sign.Loads {
		c.arm()
	}
	c.end(sign.End)
	return api.Rec{Addr: bus.Addr, Data: data, Read: bus.Read, BS: bus.BS, LIC: sign.LIC, AVMA: sign.AVMA, BUSY: bus.BUSY, Mine: true}
}

// end: what the end of a row leaves, if it ends there.
func (c *Cpu) end(how int) {
	switch how {
	case core.Goes:
		return
	case core.Sync:
		c.rest(api.InSync)
	case core.Cwai:
		c.rest(api.InCwai)
	default:
		c.rest(api.AtBoundary)
	}
	c.regs = c.core.Now()
}

// rest: a mode in which no row is under way.
func (c *Cpu) rest(mode int) {
	c.mode, c.row, c.log = mode, 0, c.log[:0]
}
