package asm

import (
	"math"

	"spinet/api"
	"spinet/expr"
	"spinet/inst"
	"spinet/line"
	"spinet/octet"
	"spinet/symbols"
)

// plan is what is known of a line ahead of its bytes: where it stands, and either an instruction, with 0 as its number behind, and its operand, or fields, of so many bytes each (width; 0: it has none). A line that has no bytes has neither.
type plan struct {
	at     uint16
	inst   api.Inst
	arg    line.Arg
	width  int
	fields []string
}

// bytes: the bytes of a line.
func (p plan) bytes(names *symbols.Table) ([]byte, api.Errno) {
	switch {
	case p.width > 0:
		return p.data(names)
	case p.inst.Len > 0:
		return p.code(names)
	}
	return nil, api.OK
}

// data: the bytes of fields.
func (p plan) data(names *symbols.Table) ([]byte, api.Errno) {
	if len(p.fields) == 0 {
		return nil, api.ErrForm
	}
	var out []byte
	for _, s := range p.fields {
		v, e := expr.Eval(s, p.at, names)
		switch {
		case e != api.OK:
			return nil, e
		case p.width > 1:
			out = append(out, octet.High(v))
		case !expr.Fits(v):
			return nil, api.ErrOver
		}
		out = append(out, octet.Low(v))
	}
	return out, api.OK
}

// code: the bytes of an instruction.
func (p plan) code(names *symbols.Table) ([]byte, api.Errno) {
	i := p.inst
	if p.numbered() {
		v, e := expr.Eval(p.arg.Expr, p.at, names)
		if e != api.OK {
			return nil, e
		}
		n, ok := p.number(v)
		if !ok {
			return nil, api.ErrOver
		}
		i.Value = n
	}
	return inst.Put(i)
}

// numbered: has the instruction a number behind?
func (p plan) numbered() bool {
	switch p.inst.Entry.Mode {
	case api.ModeInh, api.ModePair, api.ModeMany:
		return false
	case api.ModeIdx:
		return p.arg.Post.Bytes() > 0
	}
	return true
}

// number: the number behind that a value makes; false: it may not be.
func (p plan) number(v uint16) (uint16, bool) {
	switch p.inst.Entry.Mode {
	case api.ModeImm:
		return uint16(octet.Low(v)), expr.Fits(v)
	case api.ModeDir:
		return v, v <= math.MaxUint8
	case api.ModeRel:
		far := v - inst.Next(p.inst, p.at)
		return far, expr.Short(far)
	case api.ModeRelw:
		return v - inst.Next(p.inst, p.at), true
	case api.ModeIdx:
		return v, p.arg.Post.Bytes() > 1 || expr.Short(v)
	}
	return v, true
}
