// Package promises tests what DOC.md promises of all layers at once: P1 and P2, and the rules that hold everywhere.
package promises

import (
	"spinet/adder"
	"spinet/alu"
	"spinet/api"
	"spinet/arbiter"
	"spinet/asm"
	"spinet/audit"
	"spinet/cond"
	"spinet/conf"
	"spinet/core"
	"spinet/count"
	"spinet/cpu"
	"spinet/crc"
	"spinet/decimal"
	"spinet/differ"
	"spinet/digit"
	"spinet/dis"
	"spinet/edge"
	"spinet/expr"
	"spinet/fast"
	"spinet/file"
	"spinet/flags"
	"spinet/flow"
	"spinet/frame"
	"spinet/index"
	"spinet/inst"
	"spinet/lexer"
	"spinet/line"
	"spinet/listing"
	"spinet/lists"
	"spinet/logic"
	"spinet/machine"
	"spinet/monitor"
	"spinet/octet"
	"spinet/ops"
	"spinet/pack"
	"spinet/page"
	"spinet/phase"
	"spinet/pins"
	"spinet/post"
	"spinet/prio"
	"spinet/queue"
	"spinet/ram"
	"spinet/record"
	"spinet/report"
	"spinet/ring"
	"spinet/rows"
	"spinet/shift"
	"spinet/slice"
	"spinet/snap"
	"spinet/srec"
	"spinet/stall"
	"spinet/symbols"
	"spinet/table"
	"spinet/taker"
	"spinet/times"
	"spinet/wave"
	"spinet/wide"
)

// functions: all that the chapters list, but for methods, by their names.
func functions() map[string]any {
	return map[string]any{
		"adder.Add": adder.Add, "adder.Adc": adder.Adc, "adder.Chain": adder.Chain,
		"alu.Eight": alu.Eight, "alu.Change": alu.Change, "alu.Word": alu.Word,
		"arbiter.Right": arbiter.Right, "arbiter.Next": arbiter.Next, "arbiter.Plan": arbiter.Plan,
		"asm.Assemble": asm.Assemble,
		"audit.Check":  audit.Check, "audit.Tally": audit.Tally,
		"cond.Holds": cond.Holds, "cond.Not": cond.Not, "cond.Name": cond.Name, "cond.Find": cond.Find,
		"conf.Right": conf.Right, "conf.Check": conf.Check, "conf.Text": conf.Text, "conf.Read": conf.Read,
		"core.New":  core.New,
		"count.Inc": count.Inc, "count.Dec": count.Dec,
		"cpu.New": cpu.New, "cpu.Restore": cpu.Restore,
		"crc.On": crc.On, "crc.Of": crc.Of, "crc.Seal": crc.Seal, "crc.Open": crc.Open,
		"decimal.Daa": decimal.Daa, "decimal.Right": decimal.Right, "decimal.Sum": decimal.Sum,
		"differ.First": differ.First, "differ.Count": differ.Count, "differ.Fields": differ.Fields, "differ.Report": differ.Report, "differ.Own": differ.Own,
		"digit.Hex": digit.Hex, "digit.Read": digit.Read, "digit.Dec": digit.Dec, "digit.ReadDec": digit.ReadDec, "digit.Pairs": digit.Pairs, "digit.Unpair": digit.Unpair,
		"dis.Byte": dis.Byte, "dis.Word": dis.Word, "dis.Reg": dis.Reg, "dis.Sure": dis.Sure, "dis.Text": dis.Text, "dis.Line": dis.Line, "dis.Lines": dis.Lines,
		"edge.Sample": edge.Sample, "edge.Arm": edge.Arm, "edge.Take": edge.Take, "edge.Reset": edge.Reset, "edge.All": edge.All,
		"expr.Eval": expr.Eval, "expr.Const": expr.Const, "expr.Fits": expr.Fits, "expr.Short": expr.Short,
		"fast.Decode": fast.Decode, "fast.Step": fast.Step, "fast.Row": fast.Row, "fast.Many": fast.Many,
		"file.Pair": file.Pair,
		"flags.Has": flags.Has, "flags.With": flags.With, "flags.NZ": flags.NZ, "flags.NZW": flags.NZW, "flags.Text": flags.Text, "flags.Read": flags.Read,
		"flow.Next": flow.Next, "flow.Reach": flow.Reach, "flow.Straight": flow.Straight,
		"frame.Parts": frame.Parts, "frame.Of": frame.Of, "frame.Soft": frame.Soft, "frame.Bytes": frame.Bytes, "frame.Back": frame.Back,
		"index.Direct": index.Direct, "index.Of": index.Of, "index.Inst": index.Inst,
		"inst.Of": inst.Of, "inst.Put": inst.Put, "inst.Next": inst.Next, "inst.Target": inst.Target, "inst.Same": inst.Same,
		"lexer.Cut": lexer.Cut, "lexer.All": lexer.All, "lexer.Fields": lexer.Fields,
		"line.Parse": line.Parse, "line.Pair": line.Pair,
		"listing.Text": listing.Text, "listing.Bytes": listing.Bytes, "listing.Clash": listing.Clash,
		"lists.Order": lists.Order, "lists.Count": lists.Count, "lists.Byte": lists.Byte, "lists.With": lists.With, "lists.Text": lists.Text, "lists.Read": lists.Read,
		"logic.And": logic.And, "logic.Or": logic.Or, "logic.Eor": logic.Eor, "logic.Bit": logic.Bit, "logic.Tst": logic.Tst, "logic.Com": logic.Com, "logic.Clr": logic.Clr,
		"machine.New": machine.New, "machine.Restore": machine.Restore, "machine.Same": machine.Same,
		"monitor.New": monitor.New, "monitor.Regs": monitor.Regs,
		"octet.High": octet.High, "octet.Low": octet.Low, "octet.Word": octet.Word, "octet.Sign": octet.Sign, "octet.Sign5": octet.Sign5, "octet.Ones": octet.Ones, "octet.Sum": octet.Sum, "octet.Words": octet.Words, "octet.Bytes": octet.Bytes,
		"ops.Group": ops.Group, "ops.Reg": ops.Reg, "ops.FindReg": ops.FindReg, "ops.Name": ops.Name, "ops.Find": ops.Find,
		"pack.Pack": pack.Pack, "pack.Unpack": pack.Unpack,
		"page.Of": page.Of, "page.Find": page.Find, "page.Prefix": page.Prefix,
		"phase.Some": phase.Some, "phase.First": phase.First, "phase.Row": phase.Row, "phase.Ahead": phase.Ahead, "phase.Behind": phase.Behind,
		"pins.Word": pins.Word, "pins.One": pins.One, "pins.Text": pins.Text, "pins.Parse": pins.Parse,
		"post.Of":  post.Of,
		"prio.Row": prio.Row, "prio.Wakes": prio.Wakes, "prio.Behind": prio.Behind,
		"queue.Of": queue.Of[api.Step],
		"ram.New":  ram.New, "ram.Same": ram.Same,
		"record.Put": record.Put, "record.Get": record.Get, "record.Text": record.Text, "record.Read": record.Read, "record.Lines": record.Lines,
		"report.Sum": report.Sum, "report.Run": report.Run, "report.Part": report.Part,
		"ring.New":  ring.New,
		"rows.Tail": rows.Tail, "rows.Rest": rows.Rest, "rows.Of": rows.Of, "rows.Row": rows.Row,
		"shift.Lsr": shift.Lsr, "shift.Asr": shift.Asr, "shift.Ror": shift.Ror, "shift.Asl": shift.Asl, "shift.Rol": shift.Rol,
		"slice.Cut": slice.Cut,
		"snap.Put":  snap.Put, "snap.Get": snap.Get,
		"srec.Read": srec.Read, "srec.Put": srec.Put, "srec.Get": srec.Get, "srec.Load": srec.Load,
		"stall.Insert": stall.Insert, "stall.Lost": stall.Lost,
		"symbols.Right": symbols.Right,
		"table.Least":   table.Least, "table.Most": table.Most, "table.Taken": table.Taken, "table.Whole": table.Whole, "table.Of": table.Of, "table.Row": table.Row,
		"taker.Sub": taker.Sub, "taker.Sbc": taker.Sbc, "taker.Cmp": taker.Cmp, "taker.Neg": taker.Neg, "taker.Chain": taker.Chain,
		"times.Mul": times.Mul, "times.Round": times.Round, "times.Wide": times.Wide,
		"wave.Line": wave.Line, "wave.Text": wave.Text, "wave.Rises": wave.Rises, "wave.High": wave.High, "wave.Read": wave.Read,
		"wide.Add": wide.Add, "wide.Sub": wide.Sub, "wide.Cmp": wide.Cmp, "wide.Tst": wide.Tst, "wide.Sex": wide.Sex, "wide.Abx": wide.Abx, "wide.Lea": wide.Lea,
	}
}
