package asm

import (
	"spinet/api"
	"spinet/expr"
	"spinet/lexer"
	"spinet/ops"
	"spinet/symbols"
)

// place is where the next bytes stand, from 0 to 65536, and the names that are known there.
type place struct {
	at    int
	names *symbols.Table
}

// line: what is known of a line ahead of its bytes; the place is the next one then.
func (p *place) line(l lexer.Line) (plan, api.Errno) {
	if l.Op == wordEqu {
		return plan{}, p.equal(l)
	}
	if e := p.label(l.Label); e != api.OK {
		return plan{}, e
	}
	switch l.Op {
	case "":
		return plan{}, api.OK
	case wordOrg:
		return plan{}, p.jump(l.Arg)
	case wordRmb:
		return plan{}, p.leave(l.Arg)
	case wordFcb:
		return p.data(l.Arg, 1)
	case wordFdb:
		return p.data(l.Arg, 2)
	}
	return p.instruction(l)
}

// address: where the line stands; 0 behind the last address.
func (p *place) address() uint16 { return uint16(p.at) }

// value: the value of an expression in this place.
func (p *place) value(s string) (uint16, api.Errno) {
	return expr.Eval(s, p.address(), p.names)
}

// equal: the label stands for the operand's value.
func (p *place) equal(l lexer.Line) api.Errno {
	v, e := p.value(l.Arg)
	if e != api.OK {
		return e
	}
	// No name may be empty: a line without a label ends here.
	return p.names.Set(l.Label, v)
}

// label: a label, if it isn't empty, stands for this place.
func (p *place) label(name string) api.Errno {
	if name == "" {
		return api.OK
	}
	if p.at >= api.Mem {
		return api.ErrRange
	}
	return p.names.Set(name, p.address())
}

// jump: the place is the operand's value.
func (p *place) jump(arg string) api.Errno {
	v, e := p.value(arg)
	if e == api.OK {
		p.at = int(v)
	}
	return e
}

// leave: so many addresses as the operand's value are left out.
func (p *place) leave(arg string) api.Errno {
	v, e := p.value(arg)
	if e != api.OK {
		return e
	}
	return p.move(int(v))
}

// move: so many addresses on.
func (p *place) move(n int) api.Errno {
	if n > api.Mem-p.at {
		return api.ErrRange
	}
	p.at += n
	return api.OK
}

// data: what is known of the values of an operand's fields, of so many bytes each.
func (p *place) data(arg string, width int) (plan, api.Errno) {
	fields := lexer.Fields(arg)
	made := plan{at: p.address(), width: width, fields: fields}
	return made, p.move(width * len(fields))
}

// instruction: what is known of an instruction.
func (p *place) instruction(l lexer.Line) (plan, api.Errno) {
	op, reg, ok := ops.Find(l.Op)
	if !ok {
		return plan{}, api.ErrName
	}
	o, e := read(op, reg, l.Arg)
	if e != api.OK {
		return plan{}, e
	}
	i, ok := listed(op, reg, o)
	if !ok {
		return plan{}, api.ErrMode
	}
	made := plan{at: p.address(), inst: i, arg: o.Arg}
	return made, p.move(i.Len)
}
