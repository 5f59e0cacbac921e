package narrow

import (
	"math"
	"slices"
	"testing"

	"cartouche/api"
	"cartouche/isa"
)

// no is told where an instruction has no halfword.
const no = -1

func reg(op, d, n, m int) api.Ins {
	return api.Ins{Op: op, Rd: d, Rn: n, Rm: m, Mode: api.ModeReg}
}

func num(op, d, n, x int) api.Ins {
	return api.Ins{Op: op, Rd: d, Rn: n, Imm: x, Mode: api.ModeImm}
}

func many(op, n, list int) api.Ins {
	return api.Ins{Op: op, Rn: n, List: list}
}

func onCondition(op, c, x int) api.Ins {
	return api.Ins{Op: op, Cond: c, Imm: x, Mode: api.ModeImm}
}

// setting is i, telling that it sets flags.
func setting(i api.Ins) api.Ins {
	i.S = true
	return i
}

// expect holds Encode and Can against a halfword, or none.
func expect(t *testing.T, i api.Ins, it bool, want int) {
	t.Helper()
	wantOK := want != no
	if !wantOK {
		want = 0
	}
	if got, ok := Encode(i, it); got != want || ok != wantOK {
		t.Errorf("Encode(%+v, %v): %#04x, %v, not %#04x, %v", i, it, got, ok, want, wantOK)
	}
	if got := Can(i, it); got != wantOK {
		t.Errorf("Can(%+v, %v): %v, not %v", i, it, got, wantOK)
	}
}

// ways is an instruction, and its halfwords out of blocks and in them, when it is told that it sets no flags and that it does.
type ways struct {
	i                        api.Ins
	out, outSets, in, inSets int
}

func expectWays(t *testing.T, l []ways) {
	t.Helper()
	for _, x := range l {
		expect(t, x.i, false, x.out)
		expect(t, setting(x.i), false, x.outSets)
		expect(t, x.i, true, x.in)
		expect(t, setting(x.i), true, x.inSets)
	}
}

// byBlock is what sets flags outside of blocks alone.
func byBlock(i api.Ins, h int) ways { return ways{i, no, h, h, no} }

// anywhere is what stands in blocks and out of them, and is not told that it sets flags.
func anywhere(i api.Ins, h int) ways { return ways{i, h, no, h, no} }

// outsideOnly is likewise, but stands in no block.
func outsideOnly(i api.Ins, h int) ways { return ways{i, h, no, no, no} }

// never is what has no halfword in any way.
func never(i api.Ins) ways { return ways{i, no, no, no, no} }

func TestEncodeOfEachRow(t *testing.T) {
	expectWays(t, []ways{
		byBlock(reg(api.OpAnd, 1, 1, 2), 0x4011), byBlock(reg(api.OpEor, 1, 1, 2), 0x4051), byBlock(reg(api.OpAdc, 1, 1, 2), 0x4151), byBlock(reg(api.OpSbc, 1, 1, 2), 0x4191), byBlock(reg(api.OpOrr, 1, 1, 2), 0x4311), byBlock(reg(api.OpBic, 1, 1, 2), 0x4391),
		byBlock(num(api.OpRsb, 1, 2, 0), 0x4251), byBlock(reg(api.OpMvn, 1, 0, 2), 0x43D1), {reg(api.OpMul, 1, 2, 1), no, no, 0x4351, no}, anywhere(reg(api.OpTst, 0, 1, 2), 0x4211), anywhere(reg(api.OpCmn, 0, 1, 2), 0x42D1),
		anywhere(reg(api.OpCmp, 0, 1, 2), 0x4291), anywhere(reg(api.OpCmp, 0, 1, 8), 0x4541), anywhere(num(api.OpCmp, 0, 1, 200), 0x29C8),
		byBlock(num(api.OpMov, 1, 0, 200), 0x21C8), {reg(api.OpMov, 1, 0, 2), 0x4611, 0x0011, 0x4611, no}, anywhere(reg(api.OpMov, 8, 0, 2), 0x4690),
		byBlock(reg(api.OpAdd, 1, 2, 3), 0x18D1), byBlock(reg(api.OpSub, 1, 2, 3), 0x1AD1), {reg(api.OpAdd, 1, 1, 2), 0x4411, 0x1889, 0x1889, no}, anywhere(reg(api.OpAdd, 8, 8, 1), 0x4488),
		byBlock(num(api.OpAdd, 1, 2, 3), 0x1CD1), byBlock(num(api.OpSub, 1, 2, 3), 0x1ED1), byBlock(num(api.OpAdd, 1, 1, 200), 0x31C8), byBlock(num(api.OpSub, 1, 1, 200), 0x39C8),
		byBlock(num(api.OpLsl, 1, 2, 3), 0x00D1), byBlock(num(api.OpLsr, 1, 2, 3), 0x08D1), byBlock(num(api.OpAsr, 1, 2, 3), 0x10D1), never(num(api.OpRor, 1, 2, 3)), never(num(api.OpRor, 1, 1, 3)),
		byBlock(reg(api.OpLsl, 1, 1, 2), 0x4091), byBlock(reg(api.OpLsr, 1, 1, 2), 0x40D1), byBlock(reg(api.OpAsr, 1, 1, 2), 0x4111), byBlock(reg(api.OpRor, 1, 1, 2), 0x41D1),
		anywhere(num(api.OpStr, 1, 2, 12), 0x60D1), anywhere(num(api.OpLdr, 1, 2, 12), 0x68D1), anywhere(num(api.OpStrb, 1, 2, 3), 0x70D1), anywhere(num(api.OpLdrb, 1, 2, 3), 0x78D1), anywhere(num(api.OpStrh, 1, 2, 6), 0x80D1), anywhere(num(api.OpLdrh, 1, 2, 6), 0x88D1),
		anywhere(num(api.OpStr, 1, 13, 12), 0x9103), anywhere(num(api.OpLdr, 1, 13, 12), 0x9903),
		anywhere(reg(api.OpStr, 1, 2, 3), 0x50D1), anywhere(reg(api.OpStrh, 1, 2, 3), 0x52D1), anywhere(reg(api.OpStrb, 1, 2, 3), 0x54D1), anywhere(reg(api.OpLdr, 1, 2, 3), 0x58D1), anywhere(reg(api.OpLdrh, 1, 2, 3), 0x5AD1), anywhere(reg(api.OpLdrb, 1, 2, 3), 0x5CD1),
		anywhere(many(api.OpStm, 2, 0x0B), 0xC20B), anywhere(many(api.OpLdm, 2, 0x0B), 0xCA0B), anywhere(many(api.OpPush, 0, 0x4011), 0xB511), anywhere(many(api.OpPop, 0, 0x8011), 0xBD11),
		outsideOnly(onCondition(api.OpB, api.NE, -4), 0xD1FE), anywhere(onCondition(api.OpB, api.AL, -4), 0xE7FE), outsideOnly(num(api.OpCbz, 0, 3, 66), 0xB30B), outsideOnly(num(api.OpCbnz, 0, 3, 66), 0xBB0B),
		anywhere(reg(api.OpBx, 0, 0, 14), 0x4770), anywhere(num(api.OpLit, 1, 0, 12), 0x4903), anywhere(num(api.OpAdr, 1, 0, 12), 0xA103),
		outsideOnly(onCondition(api.OpIt, api.NE, 8), 0xBF18), anywhere(api.Ins{Op: api.OpNop}, 0xBF00), anywhere(num(api.OpBkpt, 0, 0, 7), 0xBE07),
	})
}

func TestEncodeOfOperationsWithoutARow(t *testing.T) {
	expectWays(t, []ways{
		never(reg(api.OpTeq, 0, 1, 2)), never(num(api.OpTeq, 0, 1, 2)), never(reg(api.OpUdiv, 1, 2, 3)), never(reg(api.OpUdiv, 1, 2, 1)), never(reg(api.OpSdiv, 1, 1, 2)),
		never(num(api.OpMovw, 1, 0, 5)), never(num(api.OpMovt, 1, 0, 5)), never(num(api.OpBl, 0, 0, 0)), never(num(api.OpBl, 0, 0, -4)), never(reg(api.OpTbb, 0, 1, 2)),
		// Of these only the other mode has a row.
		never(num(api.OpAnd, 1, 1, 0)), never(num(api.OpEor, 1, 1, 1)), never(num(api.OpOrr, 1, 1, 1)), never(num(api.OpBic, 1, 1, 1)), never(num(api.OpAdc, 1, 1, 1)), never(num(api.OpSbc, 1, 1, 1)),
		never(num(api.OpMvn, 1, 0, 1)), never(num(api.OpTst, 0, 1, 0)), never(num(api.OpCmn, 0, 1, 1)), never(reg(api.OpRsb, 1, 2, 0)), never(reg(api.OpRsb, 1, 1, 2)),
	})
}

// with is i with register r in its places d, n and m, as far as at names them.
func with(i api.Ins, at string, r int) api.Ins {
	for _, place := range at {
		switch place {
		case 'd':
			i.Rd = r
		case 'n':
			i.Rn = r
		case 'm':
			i.Rm = r
		}
	}
	return i
}

// The lists have r7 and r8 in a test of their own.
func TestEncodeOfR7AndR8(t *testing.T) {
	type likeness struct {
		i        api.Ins
		at       string
		of7, of8 int
	}
	check := func(it bool, l ...likeness) {
		for _, x := range l {
			expect(t, with(x.i, x.at, 7), it, x.of7)
			expect(t, with(x.i, x.at, 8), it, x.of8)
		}
	}
	for op, h := range map[int]int{api.OpAnd: 0x4000, api.OpEor: 0x4040, api.OpAdc: 0x4140, api.OpSbc: 0x4180, api.OpOrr: 0x4300, api.OpBic: 0x4380, api.OpLsl: 0x4080, api.OpLsr: 0x40C0, api.OpAsr: 0x4100, api.OpRor: 0x41C0} {
		check(true, likeness{reg(op, 0, 0, 3), "dn", h + 0x1F, no}, likeness{reg(op, 2, 2, 0), "m", h + 0x3A, no})
	}
	for op, h := range map[int]int{api.OpStr: 0x5000, api.OpStrh: 0x5200, api.OpStrb: 0x5400, api.OpLdr: 0x5800, api.OpLdrh: 0x5A00, api.OpLdrb: 0x5C00, api.OpAdd: 0x1800, api.OpSub: 0x1A00} {
		i := reg(op, 1, 2, 3)
		check(true, likeness{i, "d", h + 0xD7, no}, likeness{i, "n", h + 0xF9, no}, likeness{i, "m", h + 0x1D1, no})
	}
	for op, h := range map[int]int{api.OpRsb: 0x4240, api.OpAdd: 0x1C00, api.OpSub: 0x1E00, api.OpLdr: 0x6800, api.OpStr: 0x6000, api.OpLdrb: 0x7800, api.OpStrb: 0x7000, api.OpLdrh: 0x8800, api.OpStrh: 0x8000} {
		i := num(op, 1, 2, 0)
		check(true, likeness{i, "d", h + 0x17, no}, likeness{i, "n", h + 0x39, no})
	}
	for op, h := range map[int]int{api.OpLsl: 0x0000, api.OpLsr: 0x0800, api.OpAsr: 0x1000} {
		i := num(op, 1, 2, 1)
		check(true, likeness{i, "d", h + 0x57, no}, likeness{i, "n", h + 0x79, no})
	}
	for op, h := range map[int]int{api.OpTst: 0x4200, api.OpCmn: 0x42C0} {
		i := reg(op, 0, 2, 3)
		check(true, likeness{i, "n", h + 0x1F, no}, likeness{i, "m", h + 0x3A, no})
	}
	check(true,
		likeness{num(api.OpAdd, 0, 0, 9), "dn", 0x3709, no}, likeness{num(api.OpSub, 0, 0, 9), "dn", 0x3F09, no},
		likeness{reg(api.OpMul, 0, 2, 0), "dm", 0x4357, no}, likeness{reg(api.OpMul, 1, 0, 1), "n", 0x4379, no},
		likeness{reg(api.OpMvn, 1, 0, 3), "d", 0x43DF, no}, likeness{reg(api.OpMvn, 1, 0, 3), "m", 0x43F9, no},
		likeness{reg(api.OpCmp, 0, 2, 3), "n", 0x429F, 0x4598}, likeness{reg(api.OpCmp, 0, 2, 3), "m", 0x42BA, 0x4542}, likeness{num(api.OpCmp, 0, 2, 5), "n", 0x2F05, no},
		likeness{reg(api.OpMov, 1, 0, 3), "d", 0x461F, 0x4698}, likeness{reg(api.OpMov, 1, 0, 3), "m", 0x4639, 0x4641}, likeness{num(api.OpMov, 1, 0, 5), "d", 0x2705, no},
		likeness{reg(api.OpAdd, 0, 0, 3), "dn", 0x18FF, 0x4498}, likeness{reg(api.OpAdd, 2, 2, 0), "m", 0x19D2, 0x4442}, likeness{reg(api.OpAdd, 0, 0, 0), "dnm", 0x19FF, 0x44C0}, likeness{reg(api.OpSub, 0, 0, 0), "dnm", 0x1BFF, no},
		likeness{num(api.OpLdr, 1, 13, 4), "d", 0x9F01, no}, likeness{num(api.OpStr, 1, 13, 4), "d", 0x9701, no}, likeness{many(api.OpStm, 2, 3), "n", 0xC703, no}, likeness{many(api.OpLdm, 2, 3), "n", 0xCF03, no},
		likeness{reg(api.OpBx, 0, 0, 3), "m", 0x4738, 0x4740}, likeness{num(api.OpLit, 1, 0, 4), "d", 0x4F01, no}, likeness{num(api.OpAdr, 1, 0, 4), "d", 0xA701, no},
	)
	check(false,
		likeness{setting(reg(api.OpMov, 1, 0, 3)), "d", 0x001F, no}, likeness{setting(reg(api.OpMov, 1, 0, 3)), "m", 0x0039, no},
		likeness{num(api.OpCbz, 0, 1, 2), "n", 0xB10F, no}, likeness{num(api.OpCbnz, 0, 1, 2), "n", 0xB90F, no},
	)
}

func TestEncodeWhereRdIsAnotherOne(t *testing.T) {
	for _, op := range []int{api.OpAnd, api.OpEor, api.OpAdc, api.OpSbc, api.OpOrr, api.OpBic, api.OpLsl, api.OpLsr, api.OpAsr, api.OpRor} {
		for _, i := range []api.Ins{reg(op, 1, 2, 3), reg(op, 1, 2, 1), reg(op, 1, 0, 1), reg(op, 0, 1, 1)} {
			expectWays(t, []ways{never(i)})
		}
	}
	expectWays(t, []ways{
		byBlock(reg(api.OpAnd, 3, 3, 3), 0x401B), byBlock(reg(api.OpRor, 5, 5, 5), 0x41ED),
		{reg(api.OpMul, 4, 5, 4), no, no, 0x436C, no}, {reg(api.OpMul, 4, 4, 4), no, no, 0x4364, no}, never(reg(api.OpMul, 4, 4, 5)), never(reg(api.OpMul, 4, 5, 6)), never(reg(api.OpMul, 8, 4, 8)), never(reg(api.OpMul, 4, 8, 4)),
		byBlock(reg(api.OpAdd, 1, 2, 1), 0x1851), {reg(api.OpAdd, 2, 2, 2), 0x4412, 0x1892, 0x1892, no}, never(reg(api.OpAdd, 8, 1, 8)), never(reg(api.OpAdd, 8, 9, 1)), never(reg(api.OpAdd, 1, 2, 8)),
		byBlock(reg(api.OpSub, 1, 1, 2), 0x1A89), byBlock(reg(api.OpSub, 1, 2, 1), 0x1A51), never(reg(api.OpSub, 8, 8, 1)),
		byBlock(num(api.OpAdd, 1, 1, 8), 0x3108), never(num(api.OpAdd, 1, 2, 8)), byBlock(num(api.OpSub, 1, 1, 8), 0x3908), never(num(api.OpSub, 1, 2, 8)),
		byBlock(num(api.OpRsb, 1, 1, 0), 0x4249), never(num(api.OpRsb, 1, 1, 1)), never(num(api.OpRsb, 1, 2, 1)), never(num(api.OpRsb, 1, 2, 1<<31)),
	})
}

func TestEncodeOfTheFirstOfTwoRows(t *testing.T) {
	expectWays(t, []ways{
		// Cmp of two low registers is of the row of any ones, too.
		anywhere(reg(api.OpCmp, 0, 0, 0), 0x4280), anywhere(reg(api.OpCmp, 0, 7, 7), 0x42BF), anywhere(reg(api.OpCmp, 0, 8, 0), 0x4580), anywhere(reg(api.OpCmp, 0, 0, 8), 0x4540), anywhere(reg(api.OpCmp, 0, 9, 14), 0x45F1), anywhere(reg(api.OpCmp, 0, 14, 12), 0x45E6), anywhere(reg(api.OpCmp, 0, 12, 9), 0x45CC),
		// Add of two registers, in a block and with Rd as Rn.
		{reg(api.OpAdd, 0, 0, 1), 0x4408, 0x1840, 0x1840, no}, {reg(api.OpAdd, 7, 7, 7), 0x443F, 0x19FF, 0x19FF, no},
		// Add and Sub of numbers to 7, with Rd as Rn.
		byBlock(num(api.OpAdd, 1, 1, 0), 0x1C09), byBlock(num(api.OpAdd, 1, 1, 7), 0x1DC9), byBlock(num(api.OpAdd, 1, 1, 8), 0x3108), byBlock(num(api.OpSub, 1, 1, 0), 0x1E09), byBlock(num(api.OpSub, 1, 1, 7), 0x1FC9), byBlock(num(api.OpSub, 1, 1, 8), 0x3908),
		// Mov of two low registers that sets flags stands as a shift by none.
		{reg(api.OpMov, 0, 0, 0), 0x4600, 0x0000, 0x4600, no}, {reg(api.OpMov, 7, 0, 7), 0x463F, 0x003F, 0x463F, no},
	})
}

func TestEncodeOfNumbers(t *testing.T) {
	expectWays(t, []ways{
		anywhere(num(api.OpCmp, 0, 3, 0), 0x2B00), anywhere(num(api.OpCmp, 0, 3, 7), 0x2B07), anywhere(num(api.OpCmp, 0, 3, 255), 0x2BFF), never(num(api.OpCmp, 0, 3, 256)), never(num(api.OpCmp, 0, 3, 0xFFFFFFFF)), never(num(api.OpCmp, 0, 8, 1)),
		byBlock(num(api.OpMov, 3, 0, 0), 0x2300), byBlock(num(api.OpMov, 3, 0, 7), 0x2307), byBlock(num(api.OpMov, 3, 0, 255), 0x23FF), never(num(api.OpMov, 3, 0, 256)), never(num(api.OpMov, 3, 0, 257)), never(num(api.OpMov, 3, 0, 0xFFFFFFFF)),
		byBlock(num(api.OpAdd, 3, 4, 0), 0x1C23), byBlock(num(api.OpAdd, 3, 4, 7), 0x1DE3), never(num(api.OpAdd, 3, 4, 8)), never(num(api.OpAdd, 3, 4, 255)), never(num(api.OpAdd, 3, 4, 1<<31)),
		byBlock(num(api.OpAdd, 3, 3, 255), 0x33FF), never(num(api.OpAdd, 3, 3, 256)), never(num(api.OpAdd, 3, 3, 0xFFFFFF01)),
		byBlock(num(api.OpSub, 3, 4, 0), 0x1E23), byBlock(num(api.OpSub, 3, 4, 7), 0x1FE3), never(num(api.OpSub, 3, 4, 8)), byBlock(num(api.OpSub, 3, 3, 255), 0x3BFF), never(num(api.OpSub, 3, 3, 256)),
		never(num(api.OpAdd, 8, 8, 1)), never(num(api.OpSub, 14, 14, 1)), never(num(api.OpAdd, 3, 3, -1)), never(num(api.OpMov, 3, 0, 1<<32)), never(num(api.OpCmp, 0, 3, 1<<32+1)),
		byBlock(num(api.OpLsl, 3, 4, 1), 0x0063), byBlock(num(api.OpLsl, 3, 4, 31), 0x07E3), never(num(api.OpLsl, 3, 4, 32)), never(num(api.OpLsl, 3, 4, 0)),
		byBlock(num(api.OpLsr, 3, 4, 1), 0x0863), byBlock(num(api.OpLsr, 3, 4, 31), 0x0FE3), byBlock(num(api.OpLsr, 3, 4, 32), 0x0823), never(num(api.OpLsr, 3, 4, 33)), never(num(api.OpLsr, 3, 4, 0)),
		byBlock(num(api.OpAsr, 3, 4, 1), 0x1063), byBlock(num(api.OpAsr, 3, 4, 31), 0x17E3), byBlock(num(api.OpAsr, 3, 4, 32), 0x1023), never(num(api.OpAsr, 3, 4, 33)), never(num(api.OpAsr, 3, 4, 64)),
		never(num(api.OpRor, 3, 4, 1)), never(num(api.OpRor, 3, 3, 31)),
		anywhere(num(api.OpBkpt, 0, 0, 0), 0xBE00), anywhere(num(api.OpBkpt, 0, 0, 255), 0xBEFF), never(num(api.OpBkpt, 0, 0, 256)), never(num(api.OpBkpt, 0, 0, -1)),
	})
}

func TestEncodeOfMovAndAddOfHigherRegisters(t *testing.T) {
	expectWays(t, []ways{
		anywhere(reg(api.OpMov, 8, 0, 0), 0x4680), anywhere(reg(api.OpMov, 0, 0, 8), 0x4640), anywhere(reg(api.OpMov, 12, 0, 9), 0x46CC), anywhere(reg(api.OpMov, 9, 0, 12), 0x46E1), anywhere(reg(api.OpMov, 14, 0, 0), 0x4686), anywhere(reg(api.OpMov, 0, 0, 14), 0x4670), anywhere(reg(api.OpMov, 14, 0, 14), 0x46F6),
		anywhere(reg(api.OpMov, 13, 0, 0), 0x4685), anywhere(reg(api.OpMov, 0, 0, 13), 0x4668), anywhere(reg(api.OpMov, 13, 0, 13), 0x46ED), anywhere(reg(api.OpMov, 13, 0, 14), 0x46F5), anywhere(reg(api.OpMov, 14, 0, 13), 0x46EE),
		never(reg(api.OpMov, 15, 0, 14)), never(reg(api.OpMov, 0, 0, 15)),
		anywhere(reg(api.OpAdd, 8, 8, 8), 0x44C0), anywhere(reg(api.OpAdd, 0, 0, 8), 0x4440), anywhere(reg(api.OpAdd, 12, 12, 9), 0x44CC), anywhere(reg(api.OpAdd, 9, 9, 12), 0x44E1), anywhere(reg(api.OpAdd, 14, 14, 0), 0x4486), anywhere(reg(api.OpAdd, 0, 0, 14), 0x4470), anywhere(reg(api.OpAdd, 14, 14, 14), 0x44F6),
		never(reg(api.OpAdd, 13, 13, 0)), never(reg(api.OpAdd, 0, 0, 13)), never(reg(api.OpAdd, 15, 15, 0)), never(reg(api.OpAdd, 8, 8, 15)),
		never(reg(api.OpCmp, 0, 13, 0)), never(reg(api.OpCmp, 0, 0, 13)), never(reg(api.OpCmp, 0, 15, 0)),
	})
	for r := range 15 {
		expect(t, reg(api.OpBx, 0, 0, r), false, 0x4700+8*r)
		expect(t, reg(api.OpBx, 0, 0, r), true, 0x4700+8*r)
	}
	expectWays(t, []ways{never(reg(api.OpBx, 0, 0, 15)), never(reg(api.OpBx, 0, 0, 16))})
}

func TestEncodeOfLoadsAndStores(t *testing.T) {
	for _, x := range []struct{ op, begin, step, sp int }{
		{api.OpStr, 0x6000, 4, 0x9000}, {api.OpLdr, 0x6800, 4, 0x9800}, {api.OpStrb, 0x7000, 1, no}, {api.OpLdrb, 0x7800, 1, no}, {api.OpStrh, 0x8000, 2, no}, {api.OpLdrh, 0x8800, 2, no},
	} {
		most := 31 * x.step
		expectWays(t, []ways{
			anywhere(num(x.op, 5, 6, 0), x.begin+0x35), anywhere(num(x.op, 5, 6, x.step), x.begin+0x75), anywhere(num(x.op, 5, 6, most), x.begin+0x7F5), never(num(x.op, 5, 6, most+x.step)), never(num(x.op, 5, 6, 4095)), never(num(x.op, 5, 6, 1020)), never(num(x.op, 5, 6, -x.step)),
			never(num(x.op, 8, 6, 0)), never(num(x.op, 5, 8, 0)), never(num(x.op, 5, 14, x.step)), never(num(x.op, 14, 5, x.step)), never(num(x.op, 5, 12, most)), never(num(x.op, 5, 15, 0)),
			never(reg(x.op, 5, 13, 1)), never(reg(x.op, 5, 8, 1)), never(reg(x.op, 5, 1, 13)),
		})
		for n := range x.step {
			if n > 0 {
				expectWays(t, []ways{never(num(x.op, 5, 6, n)), never(num(x.op, 5, 6, most-n)), never(num(x.op, 5, 6, most+n)), never(num(x.op, 5, 13, n)), never(num(x.op, 5, 13, 1020-n)), never(num(x.op, 5, 13, 1020+n))})
			}
		}
		if x.sp == no {
			expectWays(t, []ways{never(num(x.op, 5, 13, 0)), never(num(x.op, 5, 13, 4)), never(num(x.op, 5, 13, 31))})
			continue
		}
		expectWays(t, []ways{
			anywhere(num(x.op, 5, 13, 0), x.sp+0x500), anywhere(num(x.op, 5, 13, 4), x.sp+0x501), anywhere(num(x.op, 5, 13, 124), x.sp+0x51F), anywhere(num(x.op, 5, 13, 128), x.sp+0x520), anywhere(num(x.op, 5, 13, 1020), x.sp+0x5FF),
			never(num(x.op, 5, 13, 1024)), never(num(x.op, 5, 13, 4092)), never(num(x.op, 8, 13, 0)), never(num(x.op, 13, 13, 0)), never(num(x.op, 5, 13, -4)),
		})
	}
}

func TestEncodeOfLists(t *testing.T) {
	expectWays(t, []ways{
		anywhere(many(api.OpStm, 0, 0xFE), 0xC0FE), anywhere(many(api.OpStm, 7, 0x7F), 0xC77F), anywhere(many(api.OpStm, 3, 0x03), 0xC303), never(many(api.OpStm, 3, 0x101)), never(many(api.OpStm, 3, 0x4001)), never(many(api.OpStm, 3, 0x4003)), never(many(api.OpStm, 8, 3)), never(many(api.OpStm, 14, 3)), never(many(api.OpStm, 3, 0x0B)), never(many(api.OpStm, 3, 1)), never(many(api.OpStm, 3, 0)), never(many(api.OpStm, 13, 3)),
		anywhere(many(api.OpLdm, 0, 0xFE), 0xC8FE), anywhere(many(api.OpLdm, 7, 0x7F), 0xCF7F), anywhere(many(api.OpLdm, 3, 0x03), 0xCB03), never(many(api.OpLdm, 3, 0x101)), never(many(api.OpLdm, 3, 0x4001)), never(many(api.OpLdm, 3, 0x1003)), never(many(api.OpLdm, 8, 3)), never(many(api.OpLdm, 12, 3)), never(many(api.OpLdm, 0, 0xFF)), never(many(api.OpLdm, 3, 1)), never(many(api.OpLdm, 3, 0x8001)),
		anywhere(many(api.OpPush, 0, 0x01), 0xB401), anywhere(many(api.OpPush, 0, 0x80), 0xB480), anywhere(many(api.OpPush, 0, 0xFF), 0xB4FF), anywhere(many(api.OpPush, 0, 0x4000), 0xB500), anywhere(many(api.OpPush, 0, 0x40FF), 0xB5FF), anywhere(many(api.OpPush, 0, 0x4080), 0xB580),
		never(many(api.OpPush, 0, 0x100)), never(many(api.OpPush, 0, 0x101)), never(many(api.OpPush, 0, 0x1000)), never(many(api.OpPush, 0, 0x4100)), never(many(api.OpPush, 0, 0x5FFF)), never(many(api.OpPush, 0, 0x8000)), never(many(api.OpPush, 0, 0x8001)), never(many(api.OpPush, 0, 0x2001)), never(many(api.OpPush, 0, 0)),
		anywhere(many(api.OpPop, 0, 0x01), 0xBC01), anywhere(many(api.OpPop, 0, 0x80), 0xBC80), anywhere(many(api.OpPop, 0, 0xFF), 0xBCFF), anywhere(many(api.OpPop, 0, 0x8000), 0xBD00), anywhere(many(api.OpPop, 0, 0x80FF), 0xBDFF), anywhere(many(api.OpPop, 0, 0x8080), 0xBD80),
		never(many(api.OpPop, 0, 0x100)), never(many(api.OpPop, 0, 0x101)), never(many(api.OpPop, 0, 0x1000)), never(many(api.OpPop, 0, 0x8100)), never(many(api.OpPop, 0, 0x9FFF)), never(many(api.OpPop, 0, 0x4000)), never(many(api.OpPop, 0, 0x4001)), never(many(api.OpPop, 0, 0xC001)), never(many(api.OpPop, 0, 0)),
		never(many(api.OpPush, 0, -1)), never(many(api.OpPush, 0, 1<<32+1)), never(many(api.OpPop, 0, 1<<16+1)), never(many(api.OpLdm, 3, 1<<32+3)),
	})
}

func TestEncodeOfBranches(t *testing.T) {
	for c := range api.AL {
		begin := 0xD000 + 0x100*c
		expectWays(t, []ways{
			outsideOnly(onCondition(api.OpB, c, 0), begin), outsideOnly(onCondition(api.OpB, c, 2), begin+1), outsideOnly(onCondition(api.OpB, c, -2), begin+0xFF), outsideOnly(onCondition(api.OpB, c, 254), begin+0x7F), outsideOnly(onCondition(api.OpB, c, -256), begin+0x80),
			never(onCondition(api.OpB, c, 256)), never(onCondition(api.OpB, c, -258)), never(onCondition(api.OpB, c, 512)), never(onCondition(api.OpB, c, 2046)), never(onCondition(api.OpB, c, 1)), never(onCondition(api.OpB, c, -1<<24)), never(onCondition(api.OpB, c, 1<<24-2)),
		})
	}
	expectWays(t, []ways{
		anywhere(onCondition(api.OpB, api.AL, 0), 0xE000), anywhere(onCondition(api.OpB, api.AL, 2), 0xE001), anywhere(onCondition(api.OpB, api.AL, -2), 0xE7FF), anywhere(onCondition(api.OpB, api.AL, 256), 0xE080), anywhere(onCondition(api.OpB, api.AL, 2046), 0xE3FF), anywhere(onCondition(api.OpB, api.AL, -2048), 0xE400),
		never(onCondition(api.OpB, api.AL, 2048)), never(onCondition(api.OpB, api.AL, -2050)), never(onCondition(api.OpB, api.AL, 4096)), never(onCondition(api.OpB, api.AL, 3)), never(onCondition(api.OpB, api.AL, -1<<24)),
		never(onCondition(api.OpB, 15, 0)), never(onCondition(api.OpB, -1, 0)), never(onCondition(api.OpB, 16, 0)),
	})
	for op, begin := range map[int]int{api.OpCbz: 0xB100, api.OpCbnz: 0xB900} {
		expectWays(t, []ways{
			outsideOnly(num(op, 0, 0, 0), begin), outsideOnly(num(op, 0, 7, 2), begin+0x0F), outsideOnly(num(op, 0, 1, 62), begin+0xF9), outsideOnly(num(op, 0, 1, 64), begin+0x201), outsideOnly(num(op, 0, 7, 126), begin+0x2FF),
			never(num(op, 0, 0, 128)), never(num(op, 0, 0, -2)), never(num(op, 0, 0, 1)), never(num(op, 0, 0, 125)), never(num(op, 0, 8, 0)), never(num(op, 0, -1, 0)),
		})
	}
}

func TestEncodeOfLitAndAdr(t *testing.T) {
	for op, begin := range map[int]int{api.OpLit: 0x4800, api.OpAdr: 0xA000} {
		expectWays(t, []ways{
			anywhere(num(op, 0, 0, 0), begin), anywhere(num(op, 6, 0, 4), begin+0x601), anywhere(num(op, 6, 0, 1020), begin+0x6FF),
			never(num(op, 6, 0, 1024)), never(num(op, 6, 0, 2)), never(num(op, 6, 0, 1)), never(num(op, 6, 0, 3)), never(num(op, 6, 0, 1018)), never(num(op, 6, 0, 1022)), never(num(op, 6, 0, -4)), never(num(op, 6, 0, -1020)), never(num(op, 6, 0, -1024)), never(num(op, 6, 0, -4092)), never(num(op, 6, 0, 4092)), never(num(op, 6, 0, 4095)),
			never(num(op, 8, 0, 4)), never(num(op, 14, 0, 4)),
		})
	}
}

func TestEncodeOfBlocks(t *testing.T) {
	for c := -2; c <= 17; c++ {
		for mask := -2; mask <= 18; mask++ {
			// A block of al has no other condition: of its mask all bits behind the first are 0.
			isBlock := c >= 0 && c <= 14 && mask >= 1 && mask <= 15 && (c != api.AL || slices.Contains([]int{1, 2, 4, 8}, mask))
			x := never(onCondition(api.OpIt, c, mask))
			if isBlock {
				x = outsideOnly(x.i, 0xBF00+16*c+mask)
			}
			expectWays(t, []ways{x})
		}
	}
}

func TestEncodeOfNop(t *testing.T) {
	expectWays(t, []ways{anywhere(api.Ins{Op: api.OpNop}, 0xBF00), never(num(api.OpNop, 0, 0, 0)), never(reg(api.OpNop, 0, 0, 0)), never(api.Ins{Op: api.OpNop, Cond: 1}), never(many(api.OpNop, 0, 1))})
}

// row is a row of the chapter's table, in its own words: what is, beside the operation, asked of an instruction that Check takes, and what is added to the operation's halfword.
type row struct {
	ops   map[int]int
	is    func(i api.Ins, it bool) bool
	above func(i api.Ins) int
}

func low(l ...int) bool {
	for _, r := range l {
		if r < 0 || r > 7 {
			return false
		}
	}
	return true
}

// step tells whether x is a multiple of by, from 0 to most.
func step(x, by, most int) bool { return x >= 0 && x <= most && x%by == 0 }

// flags is the chapter's s.
func flags(i api.Ins, it bool) bool { return i.S == !it }

func byReg(i api.Ins) bool { return i.Mode == api.ModeReg }
func byImm(i api.Ins) bool { return i.Mode == api.ModeImm }

// h7 is the chapter's.
func h7(r int) int { return r/8*128 + r%8 }

func md(i api.Ins) int        { return i.Rm*8 + i.Rd }
func rd3(i api.Ins) int       { return i.Rn*8 + i.Rd }
func mrd(i api.Ins) int       { return i.Rm*64 + i.Rn*8 + i.Rd }
func even(x int) bool         { return x&1 == 0 }
func within(x, a, b int) bool { return a <= x && x <= b }

func aluRows() []row {
	return []row{
		{map[int]int{api.OpAnd: 0x4000, api.OpEor: 0x4040, api.OpAdc: 0x4140, api.OpSbc: 0x4180, api.OpOrr: 0x4300, api.OpBic: 0x4380}, func(i api.Ins, it bool) bool {
			return byReg(i) && i.Rd == i.Rn && flags(i, it) && low(i.Rd, i.Rm)
		}, md},
		{map[int]int{api.OpRsb: 0x4240}, func(i api.Ins, it bool) bool {
			return byImm(i) && i.Imm == 0 && flags(i, it) && low(i.Rd, i.Rn)
		}, rd3},
		{map[int]int{api.OpMvn: 0x43C0}, func(i api.Ins, it bool) bool { return byReg(i) && flags(i, it) && low(i.Rd, i.Rm) }, md},
		{map[int]int{api.OpMul: 0x4340}, func(i api.Ins, it bool) bool { return it && i.Rd == i.Rm && low(i.Rd, i.Rn) }, rd3},
		{map[int]int{api.OpTst: 0x4200, api.OpCmn: 0x42C0}, func(i api.Ins, it bool) bool { return byReg(i) && low(i.Rn, i.Rm) }, func(i api.Ins) int { return i.Rm*8 + i.Rn }},
		{map[int]int{api.OpCmp: 0x4280}, func(i api.Ins, it bool) bool { return byReg(i) && low(i.Rn, i.Rm) }, func(i api.Ins) int { return i.Rm*8 + i.Rn }},
		{map[int]int{api.OpCmp: 0x4500}, func(i api.Ins, it bool) bool { return byReg(i) }, func(i api.Ins) int { return i.Rm*8 + h7(i.Rn) }},
		{map[int]int{api.OpCmp: 0x2800}, func(i api.Ins, it bool) bool { return byImm(i) && step(i.Imm, 1, 255) && low(i.Rn) }, func(i api.Ins) int { return i.Rn*256 + i.Imm }},
		{map[int]int{api.OpMov: 0x2000}, func(i api.Ins, it bool) bool {
			return byImm(i) && step(i.Imm, 1, 255) && flags(i, it) && low(i.Rd)
		}, func(i api.Ins) int { return i.Rd*256 + i.Imm }},
		{map[int]int{api.OpMov: 0x0000}, func(i api.Ins, it bool) bool { return byReg(i) && i.S && !it && low(i.Rd, i.Rm) }, md},
		{map[int]int{api.OpMov: 0x4600}, func(i api.Ins, it bool) bool { return byReg(i) && !i.S }, func(i api.Ins) int { return i.Rm*8 + h7(i.Rd) }},
		{map[int]int{api.OpAdd: 0x1800, api.OpSub: 0x1A00}, func(i api.Ins, it bool) bool { return byReg(i) && flags(i, it) && low(i.Rd, i.Rn, i.Rm) }, mrd},
		{map[int]int{api.OpAdd: 0x4400}, func(i api.Ins, it bool) bool { return byReg(i) && i.Rd == i.Rn && !i.S }, func(i api.Ins) int { return i.Rm*8 + h7(i.Rd) }},
		{map[int]int{api.OpAdd: 0x1C00, api.OpSub: 0x1E00}, func(i api.Ins, it bool) bool {
			return byImm(i) && step(i.Imm, 1, 7) && flags(i, it) && low(i.Rd, i.Rn)
		}, func(i api.Ins) int { return i.Imm*64 + rd3(i) }},
		{map[int]int{api.OpAdd: 0x3000, api.OpSub: 0x3800}, func(i api.Ins, it bool) bool {
			return byImm(i) && i.Rd == i.Rn && step(i.Imm, 1, 255) && flags(i, it) && low(i.Rd)
		}, func(i api.Ins) int { return i.Rd*256 + i.Imm }},
		{map[int]int{api.OpLsl: 0x0000, api.OpLsr: 0x0800, api.OpAsr: 0x1000}, func(i api.Ins, it bool) bool {
			return byImm(i) && flags(i, it) && low(i.Rd, i.Rn)
		}, func(i api.Ins) int { return i.Imm%32*64 + rd3(i) }},
		{map[int]int{api.OpLsl: 0x4080, api.OpLsr: 0x40C0, api.OpAsr: 0x4100, api.OpRor: 0x41C0}, func(i api.Ins, it bool) bool {
			return byReg(i) && i.Rd == i.Rn && flags(i, it) && low(i.Rd, i.Rm)
		}, md},
	}
}

func memoryRows() []row {
	away := func(by int) func(i api.Ins, it bool) bool {
		return func(i api.Ins, it bool) bool { return byImm(i) && step(i.Imm, by, 31*by) && low(i.Rd, i.Rn) }
	}
	placed := func(by int) func(i api.Ins) int {
		return func(i api.Ins) int { return i.Imm/by*64 + rd3(i) }
	}
	return []row{
		{map[int]int{api.OpStr: 0x6000, api.OpLdr: 0x6800}, away(4), placed(4)},
		{map[int]int{api.OpStrb: 0x7000, api.OpLdrb: 0x7800}, away(1), placed(1)},
		{map[int]int{api.OpStrh: 0x8000, api.OpLdrh: 0x8800}, away(2), placed(2)},
		{map[int]int{api.OpStr: 0x9000, api.OpLdr: 0x9800}, func(i api.Ins, it bool) bool {
			return byImm(i) && i.Rn == 13 && step(i.Imm, 4, 1020) && low(i.Rd)
		}, func(i api.Ins) int { return i.Rd*256 + i.Imm/4 }},
		{map[int]int{api.OpStr: 0x5000, api.OpStrh: 0x5200, api.OpStrb: 0x5400, api.OpLdr: 0x5800, api.OpLdrh: 0x5A00, api.OpLdrb: 0x5C00}, func(i api.Ins, it bool) bool {
			return byReg(i) && low(i.Rd, i.Rn, i.Rm)
		}, mrd},
		{map[int]int{api.OpStm: 0xC000, api.OpLdm: 0xC800}, func(i api.Ins, it bool) bool { return low(i.Rn) && i.List < 256 }, func(i api.Ins) int { return i.Rn*256 + i.List }},
		{map[int]int{api.OpPush: 0xB400}, func(i api.Ins, it bool) bool { return i.List%0x4000 < 256 }, func(i api.Ins) int { return i.List%256 + i.List/0x4000*256 }},
		{map[int]int{api.OpPop: 0xBC00}, func(i api.Ins, it bool) bool { return i.List%0x8000 < 256 }, func(i api.Ins) int { return i.List%256 + i.List/0x8000*256 }},
	}
}

func otherRows() []row {
	return []row{
		{map[int]int{api.OpB: 0xD000}, func(i api.Ins, it bool) bool {
			return i.Cond != api.AL && !it && even(i.Imm) && within(i.Imm, -256, 254)
		}, func(i api.Ins) int { return i.Cond*256 + (i.Imm+512)%512/2 }},
		{map[int]int{api.OpB: 0xE000}, func(i api.Ins, it bool) bool {
			return i.Cond == api.AL && even(i.Imm) && within(i.Imm, -2048, 2046)
		}, func(i api.Ins) int { return (i.Imm + 4096) % 4096 / 2 }},
		{map[int]int{api.OpCbz: 0xB100, api.OpCbnz: 0xB900}, func(i api.Ins, it bool) bool { return !it && low(i.Rn) }, func(i api.Ins) int { return i.Imm/64*512 + i.Imm%64/2*8 + i.Rn }},
		{map[int]int{api.OpBx: 0x4700}, func(i api.Ins, it bool) bool { return true }, func(i api.Ins) int { return i.Rm * 8 }},
		{map[int]int{api.OpLit: 0x4800, api.OpAdr: 0xA000}, func(i api.Ins, it bool) bool { return step(i.Imm, 4, 1020) && low(i.Rd) }, func(i api.Ins) int { return i.Rd*256 + i.Imm/4 }},
		{map[int]int{api.OpIt: 0xBF00}, func(i api.Ins, it bool) bool { return !it }, func(i api.Ins) int { return i.Cond*16 + i.Imm }},
		{map[int]int{api.OpNop: 0xBF00}, func(i api.Ins, it bool) bool { return true }, func(i api.Ins) int { return 0 }},
		{map[int]int{api.OpBkpt: 0xBE00}, func(i api.Ins, it bool) bool { return true }, func(i api.Ins) int { return i.Imm }},
	}
}

var table = slices.Concat(aluRows(), memoryRows(), otherRows())

// wanted is what the table gives, or no.
func wanted(i api.Ins, it bool) int {
	if isa.Check(i) != api.OK {
		return no
	}
	for _, r := range table {
		if h, ok := r.ops[i.Op]; ok && r.is(i, it) {
			return h + r.above(i)
		}
	}
	return no
}

// hold holds i against the table, in all four ways.
func hold(t *testing.T, i api.Ins) {
	t.Helper()
	for _, s := range []bool{false, true} {
		for _, it := range []bool{false, true} {
			i.S = s
			expect(t, i, it, wanted(i, it))
		}
	}
	if t.Failed() {
		t.FailNow()
	}
}

func eachOp(do func(op int)) {
	for op := 1; op <= api.OpTbb; op++ {
		do(op)
	}
}

func TestEncodeOfAllRegisters(t *testing.T) {
	eachOp(func(op int) {
		for d := range 16 {
			for n := range 16 {
				for m := range 16 {
					hold(t, reg(op, d, n, m))
				}
			}
		}
	})
}

// edges are the numbers about which forms end.
func edges() []int {
	var l []int
	for _, about := range []int{0, 8, 16, 32, 64, 126, 256, 512, 1022, 2048, 4095} {
		for x := about - 6; x <= about+6; x++ {
			l = append(l, x, -x)
		}
	}
	for _, about := range []int{1 << 14, 65536, 1 << 20, 1 << 24, 1 << 31, 1 << 32, 1<<32 + 8, 1 << 40} {
		for x := about - 4; x <= about+4; x++ {
			l = append(l, x, -x)
		}
	}
	return append(l, math.MinInt, math.MinInt+4, math.MaxInt, math.MaxInt-3)
}

func TestEncodeOfNumbersAtAllEdges(t *testing.T) {
	l := edges()
	eachOp(func(op int) {
		for _, x := range l {
			for _, d := range []int{0, 1, 7, 8, 13, 14} {
				for _, n := range []int{0, 1, 7, 8, 13, 14} {
					hold(t, num(op, d, n, x))
				}
			}
			for c := range 16 {
				hold(t, onCondition(op, c, x))
			}
		}
	})
}

func TestEncodeOfAllLists(t *testing.T) {
	for list := range 1 << 16 {
		hold(t, many(api.OpPush, 0, list))
		hold(t, many(api.OpPop, 0, list))
		for _, n := range []int{0, 7, 8} {
			hold(t, many(api.OpStm, n, list))
			hold(t, many(api.OpLdm, n, list))
		}
	}
}

func TestEncodeOfAllOffsets(t *testing.T) {
	for x := -2100; x <= 2100; x++ {
		for c := range 15 {
			hold(t, onCondition(api.OpB, c, x))
		}
		for r := range 9 {
			hold(t, num(api.OpCbz, 0, r, x))
			hold(t, num(api.OpCbnz, 0, r, x))
		}
	}
}

// encoded are instructions that have halfwords, one a row or more.
func encoded() []api.Ins {
	return []api.Ins{
		setting(reg(api.OpAnd, 1, 1, 2)), setting(reg(api.OpBic, 1, 1, 2)), setting(num(api.OpRsb, 1, 2, 0)), setting(reg(api.OpMvn, 1, 0, 2)), reg(api.OpTst, 0, 1, 2), reg(api.OpCmn, 0, 1, 2), reg(api.OpCmp, 0, 1, 2), reg(api.OpCmp, 0, 8, 2), num(api.OpCmp, 0, 1, 5),
		setting(num(api.OpMov, 1, 0, 5)), setting(reg(api.OpMov, 1, 0, 2)), reg(api.OpMov, 13, 0, 2), setting(reg(api.OpAdd, 1, 2, 3)), setting(reg(api.OpSub, 1, 2, 3)), reg(api.OpAdd, 9, 9, 3), setting(num(api.OpAdd, 1, 2, 3)), setting(num(api.OpSub, 1, 1, 100)),
		setting(num(api.OpLsl, 1, 2, 3)), setting(num(api.OpAsr, 1, 2, 32)), setting(reg(api.OpRor, 1, 1, 2)), num(api.OpStr, 1, 2, 8), num(api.OpLdrb, 1, 2, 3), num(api.OpStrh, 1, 2, 6), num(api.OpLdr, 1, 13, 512), reg(api.OpLdrh, 1, 2, 3),
		many(api.OpStm, 2, 3), many(api.OpLdm, 2, 3), many(api.OpPush, 0, 0x4001), many(api.OpPop, 0, 0x8001), onCondition(api.OpB, api.NE, 8), onCondition(api.OpB, api.AL, 8), num(api.OpCbz, 0, 1, 8), num(api.OpCbnz, 0, 1, 8), reg(api.OpBx, 0, 0, 14), num(api.OpLit, 1, 0, 8), num(api.OpAdr, 1, 0, 8), onCondition(api.OpIt, api.NE, 8), {Op: api.OpNop}, num(api.OpBkpt, 0, 0, 8),
	}
}

// changes set one field of an instruction to what may be no such field.
func changes() []func(i *api.Ins) {
	var l []func(i *api.Ins)
	fields := []func(i *api.Ins) *int{
		func(i *api.Ins) *int { return &i.Cond }, func(i *api.Ins) *int { return &i.Rd }, func(i *api.Ins) *int { return &i.Rn }, func(i *api.Ins) *int { return &i.Rm },
		func(i *api.Ins) *int { return &i.Imm }, func(i *api.Ins) *int { return &i.Mode }, func(i *api.Ins) *int { return &i.List },
	}
	for _, at := range fields {
		for _, n := range []int{0, 1, 2, 3, 7, 8, 12, 13, 14, 15, 16, 64, 255, 256, 1 << 16, 1 << 32, 1<<32 + 1, -1, -8, -1 << 32, math.MaxInt, math.MinInt} {
			l = append(l, func(i *api.Ins) { *at(i) = n })
		}
	}
	return append(l, func(i *api.Ins) { i.S = !i.S })
}

func TestEncodeOfChangedFields(t *testing.T) {
	l := changes()
	for _, whole := range encoded() {
		if !Can(whole, false) {
			t.Errorf("Can(%+v, false): false", whole)
		}
		for _, first := range l {
			for _, second := range l {
				i := whole
				first(&i)
				second(&i)
				for _, it := range []bool{false, true} {
					expect(t, i, it, wanted(i, it))
				}
				if t.Failed() {
					t.FailNow()
				}
			}
		}
	}
}

// TestEncodeOfFieldsThatAreNotTheirOwn has instructions that are each of a row but for one field, which Check lets none of them have.
func TestEncodeOfFieldsThatAreNotTheirOwn(t *testing.T) {
	for _, i := range []api.Ins{
		{Op: api.OpNop, Rd: 1}, {Op: api.OpNop, Imm: 1}, {Op: api.OpNop, S: true}, {Op: api.OpPush, List: 1, Mode: api.ModeImm}, {Op: api.OpPush, List: 1, Rn: 13}, {Op: api.OpPop, List: 1, Imm: 4}, {Op: api.OpPop, List: 1, Cond: api.AL}, {Op: api.OpStm, Rn: 2, List: 3, Rd: 1}, {Op: api.OpStm, Rn: 2, List: 3, Mode: api.ModeReg}, {Op: api.OpLdm, Rn: 2, List: 3, S: true},
		{Op: api.OpAnd, Rd: 1, Rn: 1, Rm: 2, Mode: api.ModeReg, S: true, Cond: 1}, {Op: api.OpAnd, Rd: 1, Rn: 1, Rm: 2, Mode: api.ModeReg, S: true, Imm: 1}, {Op: api.OpAnd, Rd: 1, Rn: 1, Rm: 2, Mode: api.ModeReg, S: true, List: 1}, {Op: api.OpAnd, Rd: 1, Rn: 1, Rm: 2, S: true}, {Op: api.OpRsb, Rd: 1, Rn: 2, Rm: 3, Mode: api.ModeImm, S: true},
		{Op: api.OpMvn, Rd: 1, Rn: 1, Rm: 2, Mode: api.ModeReg, S: true}, {Op: api.OpTst, Rd: 1, Rn: 1, Rm: 2, Mode: api.ModeReg}, {Op: api.OpCmp, Rd: 1, Rn: 1, Rm: 2, Mode: api.ModeReg}, {Op: api.OpCmp, Rn: 1, Imm: 5, Rm: 2, Mode: api.ModeImm}, {Op: api.OpCmp, Rn: 1, Rm: 2, Mode: api.ModeReg, S: true}, {Op: api.OpMov, Rd: 1, Rn: 1, Imm: 5, Mode: api.ModeImm, S: true}, {Op: api.OpMov, Rd: 8, Rn: 8, Rm: 2, Mode: api.ModeReg},
		{Op: api.OpLdr, Rd: 1, Rn: 2, Imm: 4, Mode: api.ModeImm, S: true}, {Op: api.OpLdr, Rd: 1, Rn: 13, Imm: 4, Rm: 1, Mode: api.ModeImm}, {Op: api.OpStrb, Rd: 1, Rn: 2, Rm: 3, Imm: 1, Mode: api.ModeReg},
		{Op: api.OpB, Cond: api.AL, Mode: api.ModeImm, Rd: 1}, {Op: api.OpB, Cond: api.AL}, {Op: api.OpB, Cond: api.EQ, Mode: api.ModeImm, S: true}, {Op: api.OpCbz, Rn: 1, Cond: api.AL, Mode: api.ModeImm}, {Op: api.OpCbz, Rn: 1, Rd: 1, Mode: api.ModeImm}, {Op: api.OpBx, Rm: 14}, {Op: api.OpBx, Rm: 14, Rd: 14, Mode: api.ModeReg}, {Op: api.OpBx, Rm: 14, Cond: api.AL, Mode: api.ModeReg},
		{Op: api.OpLit, Rd: 1, Rn: 15, Imm: 4, Mode: api.ModeImm}, {Op: api.OpAdr, Rd: 1, Imm: 4}, {Op: api.OpIt, Imm: 8}, {Op: api.OpIt, Imm: 8, Rd: 1, Mode: api.ModeImm}, {Op: api.OpBkpt, Imm: 1}, {Op: api.OpBkpt, Imm: 1, Cond: api.AL, Mode: api.ModeImm}, {Op: api.OpBkpt, Imm: 1, List: 1, Mode: api.ModeImm},
		{Op: api.OpMul, Rd: 1, Rn: 2, Rm: 1}, {Op: api.OpMul, Rd: 1, Rn: 2, Rm: 1, Imm: 1, Mode: api.ModeReg}, {Op: api.OpMul, Rd: 1, Rn: 2, Rm: 1, Mode: api.ModeReg, S: true},
	} {
		expect(t, i, false, no)
		expect(t, i, true, no)
	}
}

func TestEncodeOfNoOperation(t *testing.T) {
	for _, op := range []int{0, -1, -5, -43, 46, 47, 64, 255, 256 + api.OpNop, 1<<16 + api.OpNop, 1<<32 + api.OpNop, 1<<32 + api.OpAnd, -1<<32 + api.OpBkpt, math.MaxInt, math.MinInt} {
		for _, i := range append(encoded(), api.Ins{}) {
			i.Op = op
			expect(t, i, false, no)
			expect(t, i, true, no)
		}
	}
}

func TestEncodeOfNoMode(t *testing.T) {
	for _, mode := range []int{-1, -2, 3, 4, 256, 1<<32 + api.ModeImm, 1<<32 + api.ModeReg, 1 << 32, math.MaxInt, math.MinInt} {
		for _, i := range encoded() {
			i.Mode = mode
			expect(t, i, false, no)
			expect(t, i, true, no)
		}
	}
}
