package asm

import (
	"spinet/api"
	"spinet/inst"
	"spinet/line"
	"spinet/lists"
	"spinet/page"
)

// longest is how many bytes an instruction has at most.
const longest = 5

// operand is what an operand says of its instruction: the modes that this may have, the first ones ahead, and the postbyte. Of registers' names there is nothing else.
type operand struct {
	line.Arg
	modes []int
	post  byte
}

// read: an operand of an operation.
func read(op, reg int, s string) (operand, api.Errno) {
	switch op {
	case api.OpPsh, api.OpPul:
		b, e := lists.Read(s, reg)
		return operand{modes: []int{api.ModeMany}, post: b}, e
	case api.OpExg, api.OpTfr:
		b, e := line.Pair(s)
		return operand{modes: []int{api.ModePair}, post: b}, e
	}
	a, e := line.Parse(s)
	o := operand{Arg: a, modes: modes(a)}
	if a.Form == line.Index {
		o.post, _ = a.Post.Code()
	}
	return o, e
}

// modes: those that an operand may have by its form.
func modes(a line.Arg) []int {
	switch a.Form {
	case line.Imm:
		return []int{api.ModeImm, api.ModeImmw}
	case line.Index:
		return []int{api.ModeIdx}
	case line.Addr:
		if a.Size == 1 {
			return []int{api.ModeRel, api.ModeRelw, api.ModeDir}
		}
		return []int{api.ModeRel, api.ModeRelw, api.ModeExt}
	}
	return []int{api.ModeInh}
}

// listed: the instruction, with 0 as its number behind, in the first mode in which its operation is listed; false: in none.
func listed(op, reg int, o operand) (api.Inst, bool) {
	for _, mode := range o.modes {
		entry := api.Entry{Op: op, Mode: mode, Reg: reg}
		if number, code, ok := page.Find(entry); ok {
			return sized(api.Inst{Page: number, Code: code, Entry: entry, Post: o.post}), true
		}
	}
	return api.Inst{}, false
}

// sized: an instruction with its length, which is the one with which it has bytes.
func sized(i api.Inst) api.Inst {
	for i.Len = 1; i.Len < longest; i.Len++ {
		if _, e := inst.Put(i); e == api.OK {
			break
		}
	}
	return i
}
