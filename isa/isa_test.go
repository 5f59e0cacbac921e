package isa

import (
	"math"
	"slices"
	"strings"
	"testing"

	"cartouche/api"
)

// all are the operations' names by their numbers, as the chapter tells both.
var all = []struct {
	op   int
	name string
}{
	{api.OpAnd, "and"}, {api.OpEor, "eor"}, {api.OpOrr, "orr"}, {api.OpBic, "bic"}, {api.OpAdd, "add"}, {api.OpAdc, "adc"}, {api.OpSub, "sub"}, {api.OpSbc, "sbc"}, {api.OpRsb, "rsb"},
	{api.OpMov, "mov"}, {api.OpMvn, "mvn"}, {api.OpCmp, "cmp"}, {api.OpCmn, "cmn"}, {api.OpTst, "tst"}, {api.OpTeq, "teq"},
	{api.OpLsl, "lsl"}, {api.OpLsr, "lsr"}, {api.OpAsr, "asr"}, {api.OpRor, "ror"}, {api.OpMul, "mul"}, {api.OpUdiv, "udiv"}, {api.OpSdiv, "sdiv"}, {api.OpMovw, "movw"}, {api.OpMovt, "movt"},
	{api.OpLdr, "ldr"}, {api.OpLdrb, "ldrb"}, {api.OpLdrh, "ldrh"}, {api.OpStr, "str"}, {api.OpStrb, "strb"}, {api.OpStrh, "strh"}, {api.OpLdm, "ldm"}, {api.OpStm, "stm"}, {api.OpPush, "push"}, {api.OpPop, "pop"},
	{api.OpB, "b"}, {api.OpBl, "bl"}, {api.OpCbz, "cbz"}, {api.OpCbnz, "cbnz"}, {api.OpBx, "bx"}, {api.OpLit, "ldr"}, {api.OpAdr, "adr"}, {api.OpIt, "it"}, {api.OpNop, "nop"}, {api.OpBkpt, "bkpt"}, {api.OpTbb, "tbb"},
}

// noOps are numbers of no operation, those among them that a narrower number would take for one.
var noOps = []int{0, -1, -2, -45, -46, 46, 47, 48, 63, 64, 90, 128, 255, 256, 1<<8 + 1, 1<<16 + 5, 1 << 32, 1<<32 + 1, 1<<32 + 45, -1 << 32, -1<<32 + 1, -1<<32 + 43, math.MaxInt, math.MaxInt - 1, math.MinInt, math.MinInt + 1}

// oddModes are numbers of no mode.
var oddModes = []int{-1, -2, 3, 4, 5, 256, 257, 1<<32 + 1, -1<<32 + 2, 1 << 32, math.MaxInt, math.MinInt}

// The registers by the chapter's words.
var (
	zero     = []int{0}
	lowRegs  = []int{0, 1, 2, 3, 4, 5, 6, 7}
	plainReg = []int{0, 1, 2, 3, 4, 5, 6, 7, 8, 9, 10, 11, 12, api.LR}
	spToo    = append([]int{api.SP}, plainReg...)
)

// someRegs are all registers, and numbers that are none.
var someRegs = []int{0, 1, 2, 3, 4, 5, 6, 7, 8, 9, 10, 11, 12, 13, 14, 15, 16, 17, 31, 32, 63, 64, -1, -2, -16, 256, 1 << 32, 1<<32 + 1, -1 << 32, -1<<32 + 14, math.MaxInt, math.MinInt}

// someConds are all conditions, and numbers that are none.
var someConds = []int{0, 1, 2, 3, 4, 5, 6, 7, 8, 9, 10, 11, 12, 13, 14, 15, 16, -1, -2, 256, 1 << 32, 1<<32 + 1, -1<<32 + 14, math.MaxInt, math.MinInt}

// someNumbers are the edges of all the fields' numbers, and some between.
var someNumbers = []int{
	0, 1, 2, 3, 4, 5, 6, 7, 8, 9, 10, 11, 12, 13, 14, 15, 16, 17, 30, 31, 32, 33, 63, 64, 124, 125, 126, 127, 128, 254, 255, 256, 257, 4094, 4095, 4096, 65534, 65535, 65536,
	1 << 20, 1<<24 - 4, 1<<24 - 3, 1<<24 - 2, 1<<24 - 1, 1 << 24, 1<<24 + 2, 1<<31 - 1, 1 << 31, 1<<32 - 2, 1<<32 - 1, 1 << 32, 1<<32 + 1, 1<<32 + 2, 1<<40 + 8, math.MaxInt, math.MaxInt - 1,
	-1, -2, -3, -4, -255, -256, -4094, -4095, -4096, -65536, -1<<24 + 2, -1<<24 + 1, -1 << 24, -1<<24 - 1, -1<<24 - 2, -1 << 31, -1 << 32, -1<<32 + 8, math.MinInt, math.MinInt + 2,
}

// someLists are lists of each register, of pairs, of many, and numbers that tell no list.
var someLists = []int{
	0, 1, 2, 3, 4, 8, 16, 32, 64, 128, 256, 512, 1024, 2048, 4096, 0x2000, 0x4000, 0x8000, 5, 6, 0x81, 0x101, 0x1001, 0x4001, 0x8001, 0x2001, 0x6000, 0xA000, 0xC000, 0xE000, 0xC001,
	0xFF, 0x1FFF, 0x5FFF, 0x3FFF, 0x7FFF, 0x9FFF, 0xDFFF, 0xFFFF, 0x10000, 0x10003, 0x18001, 1<<32 + 3, 1 << 40, 1<<62 + 6, -1, -2, -1 << 15, -1<<16 + 3, math.MaxInt, math.MinInt, math.MinInt + 3,
}

// form is what an operation of one mode may have.
type form struct {
	mode        int
	rd, rn, rm  []int
	least, most int
	even        bool
	list        func(l []int, rn int) bool
	cond        func(c, imm int) bool
	s           bool
}

// members are the registers of a list; false, if it has others.
func members(list int) ([]int, bool) {
	var l []int
	for r := range 16 {
		if list/(1<<r)%2 != 0 {
			l = append(l, r)
		}
	}
	return l, 0 <= list && list <= 65535
}

// allOf tells whether all of l are in set.
func allOf(l, set []int) bool {
	for _, r := range l {
		if !slices.Contains(set, r) {
			return false
		}
	}
	return true
}

func noList(l []int, rn int) bool { return len(l) == 0 }

func multiple(l []int, rn int) bool {
	return len(l) >= 2 && allOf(l, plainReg) && !slices.Contains(l, rn)
}

func pushed(l []int, rn int) bool { return len(l) >= 1 && allOf(l, plainReg) }

func popped(l []int, rn int) bool {
	return len(l) >= 1 && allOf(l, append([]int{api.PC}, plainReg...)) && !(slices.Contains(l, api.LR) && slices.Contains(l, api.PC))
}

func noCond(c, imm int) bool { return c == 0 }

func anyCond(c, imm int) bool {
	return slices.Contains([]int{0, 1, 2, 3, 4, 5, 6, 7, 8, 9, 10, 11, 12, 13, 14}, c)
}

// blockCond is asked with all masks that are numbers of four bits; al's blocks have no other condition.
func blockCond(c, imm int) bool {
	return anyCond(c, imm) && 1 <= imm && imm <= 15 && (c != api.AL || imm == 1 || imm == 2 || imm == 4 || imm == 8)
}

// formsOf are the rows of the chapter's table: an operation's forms, one a mode.
func formsOf(op int) []form {
	in := func(ops ...int) bool { return slices.Contains(ops, op) }
	imm := func(f form, least, most int) form {
		f.mode, f.least, f.most = api.ModeImm, least, most
		return f
	}
	reg := func(f form, rm []int) form {
		f.mode, f.rm = api.ModeReg, rm
		return f
	}
	switch {
	case op >= api.OpAnd && op <= api.OpRsb:
		f := form{rd: plainReg, rn: plainReg, s: true}
		return []form{imm(f, 0, 4294967295), reg(f, plainReg)}
	case in(api.OpMov):
		f := form{rd: plainReg, s: true}
		return []form{imm(f, 0, 4294967295), reg(f, plainReg), reg(form{rd: spToo}, spToo)}
	case in(api.OpMvn):
		f := form{rd: plainReg, s: true}
		return []form{imm(f, 0, 4294967295), reg(f, plainReg)}
	case in(api.OpCmp, api.OpCmn, api.OpTst, api.OpTeq):
		f := form{rn: plainReg}
		return []form{imm(f, 0, 4294967295), reg(f, plainReg)}
	case in(api.OpLsl, api.OpRor):
		f := form{rd: plainReg, rn: plainReg, s: true}
		return []form{imm(f, 1, 31), reg(f, plainReg)}
	case in(api.OpLsr, api.OpAsr):
		f := form{rd: plainReg, rn: plainReg, s: true}
		return []form{imm(f, 1, 32), reg(f, plainReg)}
	case in(api.OpMul, api.OpUdiv, api.OpSdiv):
		return []form{reg(form{rd: plainReg, rn: plainReg}, plainReg)}
	case in(api.OpMovw, api.OpMovt):
		return []form{imm(form{rd: plainReg}, 0, 65535)}
	case op >= api.OpLdr && op <= api.OpStrh:
		f := form{rd: plainReg, rn: spToo}
		return []form{imm(f, 0, 4095), reg(f, plainReg)}
	case in(api.OpLdm, api.OpStm):
		return []form{{rn: plainReg, list: multiple}}
	case in(api.OpPush):
		return []form{{list: pushed}}
	case in(api.OpPop):
		return []form{{list: popped}}
	case in(api.OpB):
		return []form{imm(form{even: true, cond: anyCond}, -16777216, 16777214)}
	case in(api.OpBl):
		return []form{imm(form{even: true}, -16777216, 16777214)}
	case in(api.OpCbz, api.OpCbnz):
		return []form{imm(form{rn: lowRegs, even: true}, 0, 126)}
	case in(api.OpBx):
		return []form{reg(form{}, spToo)}
	case in(api.OpLit, api.OpAdr):
		return []form{imm(form{rd: plainReg}, -4095, 4095)}
	case in(api.OpIt):
		return []form{imm(form{cond: blockCond}, 1, 15)}
	case in(api.OpNop):
		return []form{{}}
	case in(api.OpBkpt):
		return []form{imm(form{}, 0, 255)}
	case in(api.OpTbb):
		return []form{reg(form{rn: plainReg}, plainReg)}
	}
	return nil
}

// fits tells whether i is of the form.
func (f form) fits(i api.Ins) bool {
	told := func(set []int, r int) bool {
		if set == nil {
			set = zero
		}
		return slices.Contains(set, r)
	}
	list, cond := f.list, f.cond
	if list == nil {
		list = noList
	}
	if cond == nil {
		cond = noCond
	}
	l, isList := members(i.List)
	return i.Mode == f.mode && told(f.rd, i.Rd) && told(f.rn, i.Rn) && told(f.rm, i.Rm) && f.least <= i.Imm && i.Imm <= f.most && !(f.even && i.Imm%2 != 0) &&
		isList && list(l, i.Rn) && cond(i.Cond, i.Imm) && (f.s || !i.S)
}

// isIns is what Check is held against.
func isIns(i api.Ins) bool {
	return slices.ContainsFunc(formsOf(i.Op), func(f form) bool { return f.fits(i) })
}

// bases are one instruction of each operation and mode, and of each that may, one that sets flags.
func bases() []api.Ins {
	var l []api.Ins
	for _, o := range all {
		for _, f := range formsOf(o.op) {
			i := api.Ins{Op: o.op, Mode: f.mode, S: f.s}
			put := func(p *int, set []int, r int) {
				if set != nil {
					*p = r
				}
			}
			put(&i.Rd, f.rd, 1)
			put(&i.Rn, f.rn, 2)
			put(&i.Rm, f.rm, 3)
			if f.mode == api.ModeImm {
				i.Imm = 8
			}
			if f.list != nil {
				i.List = 0x4011
			}
			l = append(l, i)
			if f.s {
				i.S = false
				l = append(l, i)
			}
		}
	}
	return l
}

// change is one field of an instruction, and what it is set to.
type change struct {
	name   string
	values []int
	set    func(i *api.Ins, n int)
}

func changes() []change {
	ops := slices.Clone(noOps)
	for _, o := range all {
		ops = append(ops, o.op)
	}
	return []change{
		{"Op", ops, func(i *api.Ins, n int) { i.Op = n }},
		{"Cond", someConds, func(i *api.Ins, n int) { i.Cond = n }},
		{"Rd", someRegs, func(i *api.Ins, n int) { i.Rd = n }},
		{"Rn", someRegs, func(i *api.Ins, n int) { i.Rn = n }},
		{"Rm", someRegs, func(i *api.Ins, n int) { i.Rm = n }},
		{"Imm", someNumbers, func(i *api.Ins, n int) { i.Imm = n }},
		{"Mode", append([]int{api.ModeNone, api.ModeImm, api.ModeReg}, oddModes...), func(i *api.Ins, n int) { i.Mode = n }},
		{"List", someLists, func(i *api.Ins, n int) { i.List = n }},
		{"S", []int{0, 1}, func(i *api.Ins, n int) { i.S = n == 1 }},
	}
}

// hold holds Check of i against the table.
func hold(t *testing.T, i api.Ins) {
	t.Helper()
	want := api.ErrOp
	if isIns(i) {
		want = api.OK
	}
	if got := Check(i); got != want {
		t.Fatalf("Check(%+v): %d, not %d", i, got, want)
	}
}

func TestOperationsAreNumberedFromOne(t *testing.T) {
	if len(all) != 45 {
		t.Fatal(len(all))
	}
	for n, o := range all {
		if o.op != n+1 {
			t.Errorf("%s: %d, not %d", o.name, o.op, n+1)
		}
	}
}

func TestCheckTakesEachOperationInEachMode(t *testing.T) {
	had := map[int]int{}
	for _, i := range bases() {
		if got := Check(i); got != api.OK {
			t.Errorf("Check(%+v): %d", i, got)
		}
		had[i.Op]++
	}
	if len(had) != len(all) {
		t.Errorf("%d operations", len(had))
	}
}

func TestCheckOfOneFieldChanged(t *testing.T) {
	for _, base := range bases() {
		for _, c := range changes() {
			for _, n := range c.values {
				i := base
				c.set(&i, n)
				hold(t, i)
			}
		}
	}
}

func TestCheckOfTwoFieldsChanged(t *testing.T) {
	l := changes()
	for _, base := range bases() {
		for at, a := range l {
			for _, b := range l[at+1:] {
				for _, n := range a.values {
					for _, m := range b.values {
						i := base
						a.set(&i, n)
						b.set(&i, m)
						hold(t, i)
					}
				}
			}
		}
	}
}

func TestCheckOfNoOperation(t *testing.T) {
	for _, op := range noOps {
		for _, base := range append(bases(), api.Ins{}) {
			base.Op = op
			if got := Check(base); got != api.ErrOp {
				t.Errorf("Check(%+v): %d", base, got)
			}
		}
	}
}

func TestCheckOfNoMode(t *testing.T) {
	for _, base := range bases() {
		for _, mode := range oddModes {
			i := base
			i.Mode = mode
			if got := Check(i); got != api.ErrOp {
				t.Errorf("Check(%+v): %d", i, got)
			}
		}
	}
}

// imm and reg are instructions of the two modes.
func imm(op, d, n, x int) api.Ins {
	return api.Ins{Op: op, Rd: d, Rn: n, Imm: x, Mode: api.ModeImm}
}

func reg(op, d, n, m int) api.Ins {
	return api.Ins{Op: op, Rd: d, Rn: n, Rm: m, Mode: api.ModeReg}
}

func TestCheckOfNumbersAtTheirEdges(t *testing.T) {
	for _, x := range []struct {
		i           api.Ins
		least, most int
		step        int
	}{
		{imm(api.OpAnd, 0, 0, 0), 0, 0xFFFFFFFF, 1}, {imm(api.OpRsb, 12, 14, 0), 0, 0xFFFFFFFF, 1}, {imm(api.OpMov, 14, 0, 0), 0, 0xFFFFFFFF, 1}, {imm(api.OpMvn, 0, 0, 0), 0, 0xFFFFFFFF, 1},
		{imm(api.OpCmp, 0, 14, 0), 0, 0xFFFFFFFF, 1}, {imm(api.OpCmn, 0, 0, 0), 0, 0xFFFFFFFF, 1}, {imm(api.OpTst, 0, 0, 0), 0, 0xFFFFFFFF, 1}, {imm(api.OpTeq, 0, 0, 0), 0, 0xFFFFFFFF, 1},
		{imm(api.OpLsl, 0, 0, 0), 1, 31, 1}, {imm(api.OpRor, 0, 0, 0), 1, 31, 1}, {imm(api.OpLsr, 0, 0, 0), 1, 32, 1}, {imm(api.OpAsr, 0, 0, 0), 1, 32, 1},
		{imm(api.OpMovw, 0, 0, 0), 0, 65535, 1}, {imm(api.OpMovt, 0, 0, 0), 0, 65535, 1},
		{imm(api.OpLdr, 0, 13, 0), 0, 4095, 1}, {imm(api.OpLdrb, 0, 0, 0), 0, 4095, 1}, {imm(api.OpLdrh, 0, 0, 0), 0, 4095, 1}, {imm(api.OpStr, 0, 0, 0), 0, 4095, 1}, {imm(api.OpStrb, 0, 0, 0), 0, 4095, 1}, {imm(api.OpStrh, 0, 0, 0), 0, 4095, 1},
		{imm(api.OpB, 0, 0, 0), -1 << 24, 1<<24 - 2, 2}, {imm(api.OpBl, 0, 0, 0), -1 << 24, 1<<24 - 2, 2}, {imm(api.OpCbz, 0, 7, 0), 0, 126, 2}, {imm(api.OpCbnz, 0, 0, 0), 0, 126, 2},
		{imm(api.OpLit, 0, 0, 0), -4095, 4095, 1}, {imm(api.OpAdr, 0, 0, 0), -4095, 4095, 1}, {imm(api.OpIt, 0, 0, 0), 1, 15, 1}, {imm(api.OpBkpt, 0, 0, 0), 0, 255, 1},
	} {
		for n, want := range map[int]api.Errno{
			x.least: api.OK, x.most: api.OK, x.least + x.step: api.OK, x.most - x.step: api.OK,
			x.least - 1: api.ErrOp, x.least - 2: api.ErrOp, x.most + 1: api.ErrOp, x.most + 2: api.ErrOp, x.least - 1<<32: api.ErrOp, x.most + 1<<32: api.ErrOp,
		} {
			x.i.Imm = n
			if got := Check(x.i); got != want {
				t.Errorf("Check(%+v): %d, not %d", x.i, got, want)
			}
		}
		x.i.Imm = x.least + 1
		if got := Check(x.i); (got == api.OK) != (x.step == 1) {
			t.Errorf("Check(%+v): %d", x.i, got)
		}
	}
}

func TestCheckOfMoves(t *testing.T) {
	sets := func(i api.Ins) api.Ins { i.S = true; return i }
	for d := range 16 {
		for m := range 16 {
			want, whenSet := api.ErrOp, api.ErrOp
			if d != 15 && m != 15 {
				want = api.OK
				if d != 13 && m != 13 {
					whenSet = api.OK
				}
			}
			if got := Check(reg(api.OpMov, d, 0, m)); got != want {
				t.Errorf("mov %d, %d: %d, not %d", d, m, got, want)
			}
			if got := Check(sets(reg(api.OpMov, d, 0, m))); got != whenSet {
				t.Errorf("movs %d, %d: %d, not %d", d, m, got, whenSet)
			}
			if got := Check(reg(api.OpMvn, d, 0, m)); got != whenSet {
				t.Errorf("mvn %d, %d: %d, not %d", d, m, got, whenSet)
			}
		}
	}
	for _, i := range []api.Ins{imm(api.OpMov, 13, 0, 1), sets(imm(api.OpMov, 13, 0, 1)), imm(api.OpMov, 15, 0, 1), imm(api.OpMov, 0, 1, 1), reg(api.OpMov, 0, 1, 2), imm(api.OpMvn, 13, 0, 1), imm(api.OpMovw, 13, 0, 1), imm(api.OpMovt, 0, 1, 1), sets(imm(api.OpMovw, 0, 0, 1)), reg(api.OpMovw, 0, 0, 1)} {
		if got := Check(i); got != api.ErrOp {
			t.Errorf("Check(%+v): %d", i, got)
		}
	}
}

func TestCheckOfLists(t *testing.T) {
	for list := -1 << 10; list < 1<<17; list++ {
		hold(t, api.Ins{Op: api.OpPush, List: list})
		hold(t, api.Ins{Op: api.OpPop, List: list})
		for _, rn := range []int{0, 7, 12, 13, 14} {
			hold(t, api.Ins{Op: api.OpLdm, Rn: rn, List: list})
			hold(t, api.Ins{Op: api.OpStm, Rn: rn, List: list})
		}
	}
	for _, x := range []struct {
		op, rn, list int
		want         api.Errno
	}{
		{api.OpPush, 0, 0, api.ErrOp}, {api.OpPush, 0, 1, api.OK}, {api.OpPush, 0, 0x4000, api.OK}, {api.OpPush, 0, 0x5FFF, api.OK}, {api.OpPush, 0, 0x2000, api.ErrOp}, {api.OpPush, 0, 0x8000, api.ErrOp}, {api.OpPush, 0, 0x8001, api.ErrOp}, {api.OpPush, 1, 1, api.ErrOp}, {api.OpPush, 1, 4, api.ErrOp},
		{api.OpPop, 0, 0, api.ErrOp}, {api.OpPop, 0, 1, api.OK}, {api.OpPop, 0, 0x8000, api.OK}, {api.OpPop, 0, 0x4000, api.OK}, {api.OpPop, 0, 0xC000, api.ErrOp}, {api.OpPop, 0, 0xC001, api.ErrOp}, {api.OpPop, 0, 0x9FFF, api.OK}, {api.OpPop, 0, 0x5FFF, api.OK}, {api.OpPop, 0, 0xA000, api.ErrOp}, {api.OpPop, 1, 4, api.ErrOp},
		{api.OpLdm, 0, 0, api.ErrOp}, {api.OpLdm, 0, 2, api.ErrOp}, {api.OpLdm, 0, 6, api.OK}, {api.OpLdm, 1, 6, api.ErrOp}, {api.OpLdm, 14, 0x1FFF, api.OK}, {api.OpLdm, 14, 0x5FFF, api.ErrOp}, {api.OpLdm, 0, 0x5FFE, api.OK}, {api.OpLdm, 13, 6, api.ErrOp}, {api.OpLdm, 15, 6, api.ErrOp}, {api.OpLdm, 0, 0x8006, api.ErrOp}, {api.OpLdm, 0, 0x2006, api.ErrOp},
		{api.OpStm, 0, 0, api.ErrOp}, {api.OpStm, 0, 0x4000, api.ErrOp}, {api.OpStm, 0, 0x4002, api.OK}, {api.OpStm, 2, 6, api.ErrOp}, {api.OpStm, 0, 0x10006, api.ErrOp}, {api.OpStm, -1, 6, api.ErrOp}, {api.OpStm, 16, 6, api.ErrOp}, {api.OpStm, 64, 6, api.ErrOp}, {api.OpStm, math.MinInt, 6, api.ErrOp},
		{api.OpNop, 0, 1, api.ErrOp}, {api.OpBx, 0, 1, api.ErrOp},
	} {
		if got := Check(api.Ins{Op: x.op, Rn: x.rn, List: x.list}); got != x.want {
			t.Errorf("Check(%d, rn %d, list %#x): %d, not %d", x.op, x.rn, x.list, got, x.want)
		}
	}
}

func TestCheckOfConditions(t *testing.T) {
	for _, c := range someConds {
		i := api.Ins{Op: api.OpB, Cond: c, Imm: -4, Mode: api.ModeImm}
		if got, want := Check(i), c >= 0 && c <= 14; (got == api.OK) != want {
			t.Errorf("b of condition %d: %d", c, got)
		}
		i.Op = api.OpBl
		if got := Check(i); (got == api.OK) != (c == 0) {
			t.Errorf("bl of condition %d: %d", c, got)
		}
	}
}

func TestCheckOfBlocks(t *testing.T) {
	for _, c := range someConds {
		for mask := -20; mask <= 300; mask++ {
			hold(t, api.Ins{Op: api.OpIt, Cond: c, Imm: mask, Mode: api.ModeImm})
		}
	}
	for _, x := range []struct {
		c, mask int
		want    api.Errno
	}{{0, 8, api.OK}, {0, 15, api.OK}, {1, 1, api.OK}, {13, 12, api.OK}, {14, 8, api.OK}, {14, 4, api.OK}, {14, 2, api.OK}, {14, 1, api.OK}, {14, 12, api.ErrOp}, {14, 3, api.ErrOp}, {15, 8, api.ErrOp}, {-1, 8, api.ErrOp}, {0, 0, api.ErrOp}, {0, 16, api.ErrOp}, {0, -8, api.ErrOp}} {
		if got := Check(api.Ins{Op: api.OpIt, Cond: x.c, Imm: x.mask, Mode: api.ModeImm}); got != x.want {
			t.Errorf("it of %d, %d: %d, not %d", x.c, x.mask, got, x.want)
		}
	}
}

func TestName(t *testing.T) {
	for _, o := range all {
		if got := Name(o.op); got != o.name {
			t.Errorf("Name(%d): %q, not %q", o.op, got, o.name)
		}
	}
	for _, op := range noOps {
		if got := Name(op); got != "" {
			t.Errorf("Name(%d): %q", op, got)
		}
	}
}

func TestFind(t *testing.T) {
	for _, o := range all {
		want := o.op
		if o.name == "ldr" {
			want = api.OpLdr
		}
		if op, ok := Find(o.name); op != want || !ok {
			t.Errorf("Find(%q): %d, %v, not %d", o.name, op, ok, want)
		}
	}
}

func TestFindOfNoName(t *testing.T) {
	bad := []string{"", " ", "\x00", "m", "mo", "movs", "adds", "beq", "ldrsb", "lit", "ite", "itt", "tbh", "eors", "moves", "blx", "cbzz", "nopnop", "and eor", "ldr,", "b.w", "nop.w", "0", "1", "45", "-", ".word", "\xff", "m\u03bfv", strings.Repeat("b", 1000)}
	for _, o := range all {
		bad = append(bad, strings.ToUpper(o.name), strings.ToUpper(o.name[:1])+o.name[1:], o.name+" ", " "+o.name, o.name+"\x00", o.name+".", o.name+"s", o.name+"\n", o.name+o.name)
	}
	for _, s := range bad {
		if op, ok := Find(s); op != 0 || ok {
			t.Errorf("Find(%q): %d, %v", s, op, ok)
		}
	}
}

func TestSets(t *testing.T) {
	may := strings.Fields("and eor orr bic add adc sub sbc rsb mov mvn lsl lsr asr ror")
	for _, o := range all {
		if got, want := Sets(o.op), slices.Contains(may, o.name); got != want {
			t.Errorf("Sets(%s): %v", o.name, got)
		}
	}
	for _, op := range noOps {
		if Sets(op) {
			t.Errorf("Sets(%d): true", op)
		}
	}
}
