package encode

import (
	"math"
	"slices"
	"testing"

	"cartouche/api"
	"cartouche/expand"
	"cartouche/isa"
	"cartouche/narrow"
	"cartouche/wide"
)

// no is told where an instruction has no halfwords of a width; two of them are told as one number, the first of them above.
const no = -1

// sBit is S in both halfwords.
const sBit = 0x0010_0000

func reg(op, d, n, m int) api.Ins {
	return api.Ins{Op: op, Rd: d, Rn: n, Rm: m, Mode: api.ModeReg}
}

func num(op, d, n, x int) api.Ins {
	return api.Ins{Op: op, Rd: d, Rn: n, Imm: x, Mode: api.ModeImm}
}

func many(op, n, list int) api.Ins {
	return api.Ins{Op: op, Rn: n, List: list}
}

func onCond(op, c, x int) api.Ins {
	return api.Ins{Op: op, Cond: c, Imm: x, Mode: api.ModeImm}
}

// setting is i, telling that it sets flags.
func setting(i api.Ins) api.Ins {
	i.S = true
	return i
}

// widths are the one halfword of an instruction, and the two of it.
type widths struct{ one, two int }

var none = widths{no, no}

func (w widths) narrow() []int {
	if w.one == no {
		return nil
	}
	return []int{w.one}
}

func (w widths) wide() []int {
	if w.two == no {
		return nil
	}
	return []int{w.two >> 16, w.two & 0xFFFF}
}

func (w widths) best() []int {
	if w.one == no {
		return w.wide()
	}
	return w.narrow()
}

// expectRow holds an answer against halfwords; where there are none, it is to be empty, with ErrOp.
func expectRow(t *testing.T, call string, i api.Ins, it bool, got []int, err api.Errno, want []int) {
	t.Helper()
	wantErr := api.OK
	if len(want) == 0 {
		wantErr = api.ErrOp
	}
	if !slices.Equal(got, want) || err != wantErr {
		t.Errorf("%s of %+v, in a block: %v: %#04x, %d, not %#04x, %d", call, i, it, got, err, want, wantErr)
	}
}

// expect holds Encode at each width, and Best, against the halfwords of an instruction.
func expect(t *testing.T, i api.Ins, it bool, want widths) {
	t.Helper()
	got, err := Encode(i, false, it)
	expectRow(t, "Encode to one", i, it, got, err, want.narrow())
	got, err = Encode(i, true, it)
	expectRow(t, "Encode to two", i, it, got, err, want.wide())
	got, err = Best(i, it)
	expectRow(t, "Best", i, it, got, err, want.best())
}

// ways is an instruction, and its halfwords when it tells that it sets no flags (out of blocks and in them), and when it tells that it does (likewise).
type ways struct {
	i                        api.Ins
	out, in, outSets, inSets widths
}

func expectWays(t *testing.T, l ...ways) {
	t.Helper()
	for _, x := range l {
		expect(t, x.i, false, x.out)
		expect(t, x.i, true, x.in)
		expect(t, setting(x.i), false, x.outSets)
		expect(t, setting(x.i), true, x.inSets)
	}
}

// byBlock is what has one halfword where it sets flags outside of blocks, and where it sets none within them; it has two in all ways.
func byBlock(i api.Ins, one, two int) ways {
	return ways{i, widths{no, two}, widths{one, two}, widths{one, two + sBit}, widths{no, two + sBit}}
}

// flagged is what has two halfwords alone, in all ways.
func flagged(i api.Ins, two int) ways {
	return ways{i, widths{no, two}, widths{no, two}, widths{no, two + sBit}, widths{no, two + sBit}}
}

// keeping has the same halfwords in blocks and out of them, and is not told that it sets flags.
func keeping(i api.Ins, one, two int) ways {
	return ways{i, widths{one, two}, widths{one, two}, none, none}
}

// outside is likewise, but has none within a block.
func outside(i api.Ins, one, two int) ways {
	return ways{i, widths{one, two}, none, none, none}
}

// never is what has no halfwords in any way.
func never(i api.Ins) ways { return ways{i, none, none, none, none} }

func TestEachOperation(t *testing.T) {
	l := []ways{
		byBlock(reg(api.OpAnd, 1, 1, 2), 0x4011, 0xEA01_0102), byBlock(reg(api.OpEor, 1, 1, 2), 0x4051, 0xEA81_0102), byBlock(reg(api.OpOrr, 1, 1, 2), 0x4311, 0xEA41_0102), byBlock(reg(api.OpBic, 1, 1, 2), 0x4391, 0xEA21_0102),
		byBlock(reg(api.OpAdd, 1, 2, 3), 0x18D1, 0xEB02_0103), byBlock(reg(api.OpAdc, 1, 1, 2), 0x4151, 0xEB41_0102), byBlock(reg(api.OpSub, 1, 2, 3), 0x1AD1, 0xEBA2_0103), byBlock(reg(api.OpSbc, 1, 1, 2), 0x4191, 0xEB61_0102), byBlock(num(api.OpRsb, 1, 2, 0), 0x4251, 0xF1C2_0100),
		byBlock(num(api.OpMov, 1, 0, 200), 0x21C8, 0xF04F_01C8), byBlock(reg(api.OpMvn, 1, 0, 2), 0x43D1, 0xEA6F_0102),
		keeping(reg(api.OpCmp, 0, 1, 2), 0x4291, 0xEBB1_0F02), keeping(reg(api.OpCmn, 0, 1, 2), 0x42D1, 0xEB11_0F02), keeping(reg(api.OpTst, 0, 1, 2), 0x4211, 0xEA11_0F02), keeping(reg(api.OpTeq, 0, 1, 2), no, 0xEA91_0F02),
		byBlock(num(api.OpLsl, 1, 2, 3), 0x00D1, 0xEA4F_01C2), byBlock(num(api.OpLsr, 1, 2, 3), 0x08D1, 0xEA4F_01D2), byBlock(num(api.OpAsr, 1, 2, 3), 0x10D1, 0xEA4F_01E2), byBlock(reg(api.OpRor, 1, 1, 2), 0x41D1, 0xFA61_F102),
		{reg(api.OpMul, 1, 2, 1), widths{no, 0xFB02_F101}, widths{0x4351, 0xFB02_F101}, none, none}, keeping(reg(api.OpUdiv, 1, 2, 3), no, 0xFBB2_F1F3), keeping(reg(api.OpSdiv, 1, 2, 3), no, 0xFB92_F1F3),
		keeping(num(api.OpMovw, 1, 0, 0xABCD), no, 0xF64A_31CD), keeping(num(api.OpMovt, 1, 0, 0xABCD), no, 0xF6CA_31CD),
		keeping(num(api.OpLdr, 1, 2, 12), 0x68D1, 0xF8D2_100C), keeping(num(api.OpLdrb, 1, 2, 3), 0x78D1, 0xF892_1003), keeping(num(api.OpLdrh, 1, 2, 6), 0x88D1, 0xF8B2_1006),
		keeping(num(api.OpStr, 1, 2, 12), 0x60D1, 0xF8C2_100C), keeping(num(api.OpStrb, 1, 2, 3), 0x70D1, 0xF882_1003), keeping(num(api.OpStrh, 1, 2, 6), 0x80D1, 0xF8A2_1006),
		keeping(many(api.OpLdm, 2, 0x0B), 0xCA0B, 0xE8B2_000B), keeping(many(api.OpStm, 2, 0x0B), 0xC20B, 0xE8A2_000B), keeping(many(api.OpPush, 0, 0x4011), 0xB511, 0xE92D_4011), keeping(many(api.OpPop, 0, 0x8011), 0xBD11, 0xE8BD_8011),
		outside(onCond(api.OpB, api.NE, -4), 0xD1FE, 0xF47F_AFFE), keeping(onCond(api.OpB, api.AL, -4), 0xE7FE, 0xF7FF_BFFE), keeping(num(api.OpBl, 0, 0, -4), no, 0xF7FF_FFFE),
		outside(num(api.OpCbz, 0, 3, 66), 0xB30B, no), outside(num(api.OpCbnz, 0, 3, 66), 0xBB0B, no), keeping(reg(api.OpBx, 0, 0, 14), 0x4770, no),
		keeping(num(api.OpLit, 1, 0, 12), 0x4903, 0xF8DF_100C), keeping(num(api.OpAdr, 1, 0, 12), 0xA103, 0xF20F_010C),
		outside(onCond(api.OpIt, api.NE, 8), 0xBF18, no), keeping(api.Ins{Op: api.OpNop}, 0xBF00, 0xF3AF_8000), keeping(num(api.OpBkpt, 0, 0, 7), 0xBE07, no), keeping(reg(api.OpTbb, 0, 1, 2), no, 0xE8D1_F002),
	}
	expectWays(t, l...)
	for op := api.OpAnd; op <= api.OpTbb; op++ {
		if !slices.ContainsFunc(l, func(x ways) bool { return x.i.Op == op }) {
			t.Errorf("operation %d is not here", op)
		}
	}
}

func TestOneHalfwordAlone(t *testing.T) {
	for r := range 15 {
		expectWays(t, keeping(reg(api.OpBx, 0, 0, r), 0x4700+8*r, no))
	}
	for r := range 8 {
		expectWays(t, keeping(many(api.OpPush, 0, 1<<r), 0xB400+1<<r, no), keeping(many(api.OpPop, 0, 1<<r), 0xBC00+1<<r, no), outside(num(api.OpCbz, 0, r, 0), 0xB100+r, no), outside(num(api.OpCbnz, 0, r, 0), 0xB900+r, no))
	}
	expectWays(t,
		keeping(many(api.OpPush, 0, 1<<api.LR), 0xB500, no), keeping(many(api.OpPop, 0, 1<<api.PC), 0xBD00, no),
		keeping(reg(api.OpMov, 13, 0, 0), 0x4685, no), keeping(reg(api.OpMov, 0, 0, 13), 0x4668, no), keeping(reg(api.OpMov, 13, 0, 13), 0x46ED, no), keeping(reg(api.OpMov, 14, 0, 13), 0x46EE, no), keeping(reg(api.OpMov, 13, 0, 12), 0x46E5, no),
		keeping(num(api.OpBkpt, 0, 0, 0), 0xBE00, no), keeping(num(api.OpBkpt, 0, 0, 255), 0xBEFF, no),
		outside(onCond(api.OpIt, api.EQ, 8), 0xBF08, no), outside(onCond(api.OpIt, api.LE, 15), 0xBFDF, no), outside(onCond(api.OpIt, api.AL, 8), 0xBFE8, no), outside(onCond(api.OpIt, api.AL, 1), 0xBFE1, no),
	)
}

func TestTwoHalfwordsAlone(t *testing.T) {
	expectWays(t,
		flagged(num(api.OpAnd, 1, 1, 5), 0xF001_0105), flagged(num(api.OpEor, 1, 1, 5), 0xF081_0105), flagged(num(api.OpOrr, 1, 1, 5), 0xF041_0105), flagged(num(api.OpBic, 1, 1, 5), 0xF021_0105), flagged(num(api.OpAdc, 1, 1, 5), 0xF141_0105), flagged(num(api.OpSbc, 1, 1, 5), 0xF161_0105), flagged(num(api.OpMvn, 1, 0, 5), 0xF06F_0105),
		keeping(num(api.OpTst, 0, 1, 5), no, 0xF011_0F05), keeping(num(api.OpTeq, 0, 1, 5), no, 0xF091_0F05), keeping(num(api.OpCmn, 0, 1, 5), no, 0xF111_0F05), flagged(reg(api.OpRsb, 1, 1, 2), 0xEBC1_0102),
		// What has one halfword only where Rd is Rn, or Rm.
		flagged(reg(api.OpAnd, 1, 2, 3), 0xEA02_0103), flagged(reg(api.OpEor, 1, 2, 1), 0xEA82_0101), flagged(reg(api.OpOrr, 1, 2, 3), 0xEA42_0103), flagged(reg(api.OpBic, 1, 2, 1), 0xEA22_0101), flagged(reg(api.OpAdc, 1, 2, 3), 0xEB42_0103), flagged(reg(api.OpSbc, 1, 2, 3), 0xEB62_0103),
		flagged(reg(api.OpLsl, 1, 2, 3), 0xFA02_F103), flagged(reg(api.OpLsr, 1, 2, 1), 0xFA22_F101), flagged(reg(api.OpAsr, 1, 2, 3), 0xFA42_F103), flagged(reg(api.OpRor, 1, 2, 3), 0xFA62_F103), keeping(reg(api.OpMul, 1, 2, 3), no, 0xFB02_F103), keeping(reg(api.OpMul, 1, 1, 2), no, 0xFB01_F102),
		flagged(num(api.OpRor, 1, 1, 3), 0xEA4F_01F1), flagged(reg(api.OpSub, 8, 8, 1), 0xEBA8_0801), flagged(reg(api.OpMvn, 8, 0, 1), 0xEA6F_0801), keeping(reg(api.OpTst, 0, 8, 1), no, 0xEA18_0F01), keeping(reg(api.OpCmn, 0, 1, 8), no, 0xEB11_0F08),
		keeping(reg(api.OpUdiv, 14, 14, 14), no, 0xFBBE_FEFE), keeping(reg(api.OpSdiv, 0, 0, 0), no, 0xFB90_F0F0), keeping(num(api.OpMovw, 0, 0, 0), no, 0xF240_0000), keeping(num(api.OpMovt, 0, 0, 1), no, 0xF2C0_0001), keeping(num(api.OpBl, 0, 0, 0), no, 0xF000_F800), keeping(reg(api.OpTbb, 0, 0, 0), no, 0xE8D0_F000),
		keeping(reg(api.OpLdr, 5, 13, 1), no, 0xF85D_5001), keeping(reg(api.OpStrb, 5, 13, 1), no, 0xF80D_5001), keeping(num(api.OpLdrb, 5, 13, 0), no, 0xF89D_5000), keeping(num(api.OpLdrh, 5, 13, 4), no, 0xF8BD_5004), keeping(num(api.OpStrb, 5, 13, 4), no, 0xF88D_5004), keeping(num(api.OpStrh, 5, 13, 0), no, 0xF8AD_5000),
		keeping(num(api.OpLit, 1, 0, -4), no, 0xF85F_1004), keeping(num(api.OpAdr, 1, 0, -4), no, 0xF2AF_0104), keeping(many(api.OpPop, 0, 1<<api.LR|1), no, 0xE8BD_4001),
	)
}

func TestNoHalfwords(t *testing.T) {
	for _, op := range []int{api.OpAnd, api.OpEor, api.OpOrr, api.OpBic, api.OpAdc, api.OpSbc, api.OpRsb, api.OpAdd, api.OpSub} {
		expectWays(t, never(num(op, 1, 1, 4097)), never(num(op, 8, 9, 0x12345678)), never(num(op, 1, 2, 0xFFFFFFFE)))
	}
	for _, op := range []int{api.OpMov, api.OpMvn} {
		expectWays(t, never(num(op, 1, 0, 257)), never(num(op, 8, 0, 4095)), never(num(op, 1, 0, 0xFFFFFFFE)))
	}
	for _, op := range []int{api.OpCmp, api.OpCmn, api.OpTst, api.OpTeq} {
		expectWays(t, never(num(op, 0, 1, 257)), never(num(op, 0, 8, 4095)), never(num(op, 0, 1, 0xFFFFFFFE)))
	}
	for c := range api.AL {
		expectWays(t, never(onCond(api.OpB, c, 1<<20)), never(onCond(api.OpB, c, -1<<20-2)), never(onCond(api.OpB, c, 1<<24-2)), never(onCond(api.OpB, c, -1<<24)))
		expect(t, onCond(api.OpB, c, 0), true, none)
		expect(t, onCond(api.OpIt, c, 8), true, none)
	}
	for r := 8; r <= 14; r++ {
		expectWays(t, never(many(api.OpPop, 0, 1<<r)))
		if r < 13 {
			expectWays(t, never(many(api.OpPush, 0, 1<<r)))
		}
	}
	expect(t, num(api.OpCbz, 0, 1, 2), true, none)
	expect(t, num(api.OpCbnz, 0, 1, 2), true, none)
	expect(t, onCond(api.OpIt, api.AL, 8), true, none)
}

func TestWidthsThatChangeWithTheBlock(t *testing.T) {
	expectWays(t,
		// Moves.
		byBlock(num(api.OpMov, 0, 0, 1), 0x2001, 0xF04F_0001), ways{reg(api.OpMov, 1, 0, 2), widths{0x4611, 0xEA4F_0102}, widths{0x4611, 0xEA4F_0102}, widths{0x0011, 0xEA5F_0102}, widths{no, 0xEA5F_0102}}, ways{reg(api.OpMov, 8, 0, 2), widths{0x4690, 0xEA4F_0802}, widths{0x4690, 0xEA4F_0802}, widths{no, 0xEA5F_0802}, widths{no, 0xEA5F_0802}},
		byBlock(reg(api.OpMvn, 7, 0, 7), 0x43FF, 0xEA6F_0707), ways{reg(api.OpMov, 0, 0, 0), widths{0x4600, 0xEA4F_0000}, widths{0x4600, 0xEA4F_0000}, widths{0x0000, 0xEA5F_0000}, widths{no, 0xEA5F_0000}},
		// Sums.
		byBlock(reg(api.OpAdd, 0, 1, 2), 0x1888, 0xEB01_0002), ways{reg(api.OpAdd, 0, 0, 1), widths{0x4408, 0xEB00_0001}, widths{0x1840, 0xEB00_0001}, widths{0x1840, 0xEB10_0001}, widths{no, 0xEB10_0001}}, ways{reg(api.OpAdd, 8, 8, 1), widths{0x4488, 0xEB08_0801}, widths{0x4488, 0xEB08_0801}, widths{no, 0xEB18_0801}, widths{no, 0xEB18_0801}},
		byBlock(reg(api.OpSub, 0, 0, 1), 0x1A40, 0xEBA0_0001), byBlock(num(api.OpAdd, 0, 1, 1), 0x1C48, 0xF101_0001), byBlock(num(api.OpSub, 0, 0, 100), 0x3864, 0xF1A0_0064), byBlock(num(api.OpRsb, 0, 0, 0), 0x4240, 0xF1C0_0000), byBlock(reg(api.OpAdc, 0, 0, 1), 0x4148, 0xEB40_0001), byBlock(reg(api.OpSbc, 0, 0, 1), 0x4188, 0xEB60_0001),
		// Shifts.
		byBlock(num(api.OpLsl, 0, 1, 1), 0x0048, 0xEA4F_0041), byBlock(num(api.OpLsr, 0, 1, 32), 0x0808, 0xEA4F_0011), byBlock(num(api.OpAsr, 0, 0, 31), 0x17C0, 0xEA4F_70E0), byBlock(reg(api.OpLsl, 0, 0, 1), 0x4088, 0xFA00_F001), byBlock(reg(api.OpLsr, 0, 0, 1), 0x40C8, 0xFA20_F001), byBlock(reg(api.OpAsr, 0, 0, 1), 0x4108, 0xFA40_F001), byBlock(reg(api.OpRor, 0, 0, 1), 0x41C8, 0xFA60_F001),
		// Products, and branches with a condition of their own or none.
		ways{reg(api.OpMul, 4, 5, 4), widths{no, 0xFB05_F404}, widths{0x436C, 0xFB05_F404}, none, none}, ways{reg(api.OpMul, 0, 0, 0), widths{no, 0xFB00_F000}, widths{0x4340, 0xFB00_F000}, none, none}, keeping(reg(api.OpMul, 8, 5, 8), no, 0xFB05_F808),
		outside(onCond(api.OpB, api.EQ, 0), 0xD000, 0xF000_8000), outside(onCond(api.OpB, api.LE, 300), no, 0xF340_8096), keeping(onCond(api.OpB, api.AL, 0), 0xE000, 0xF000_B800),
	)
}

func TestNumbersAtWhichWidthsEnd(t *testing.T) {
	expectWays(t,
		keeping(num(api.OpCmp, 0, 3, 255), 0x2BFF, 0xF1B3_0FFF), keeping(num(api.OpCmp, 0, 3, 256), no, 0xF5B3_7F80), never(num(api.OpCmp, 0, 3, 257)), keeping(num(api.OpCmp, 0, 3, 0xFFFFFFFF), no, 0xF1B3_3FFF), never(num(api.OpCmp, 0, 3, 1<<32)),
		byBlock(num(api.OpMov, 3, 0, 0), 0x2300, 0xF04F_0300), byBlock(num(api.OpMov, 3, 0, 255), 0x23FF, 0xF04F_03FF), flagged(num(api.OpMov, 3, 0, 256), 0xF44F_7380), never(num(api.OpMov, 3, 0, 257)), flagged(num(api.OpMov, 3, 0, 0xFFFFFFFF), 0xF04F_33FF), never(num(api.OpMov, 3, 0, 1<<32)),
		byBlock(num(api.OpRsb, 3, 4, 0), 0x4263, 0xF1C4_0300), flagged(num(api.OpRsb, 3, 4, 1), 0xF1C4_0301), flagged(num(api.OpRsb, 3, 4, 256), 0xF5C4_7380), never(num(api.OpRsb, 3, 4, 257)),
		keeping(num(api.OpMovw, 3, 0, 65535), no, 0xF64F_73FF), never(num(api.OpMovw, 3, 0, 65536)), keeping(num(api.OpMovt, 3, 0, 65535), no, 0xF6CF_73FF), never(num(api.OpMovt, 3, 0, 65536)), keeping(num(api.OpBkpt, 0, 0, 255), 0xBEFF, no), never(num(api.OpBkpt, 0, 0, 256)),
	)
	for _, x := range []struct{ op, three, eight, found, plain int }{{api.OpAdd, 0x1C00, 0x3000, 0xF100_0000, 0xF200_0000}, {api.OpSub, 0x1E00, 0x3800, 0xF1A0_0000, 0xF2A0_0000}} {
		expectWays(t,
			byBlock(num(x.op, 3, 4, 0), x.three+0x23, x.found+0x4_0300), byBlock(num(x.op, 3, 4, 7), x.three+0x1E3, x.found+0x4_0307), flagged(num(x.op, 3, 4, 8), x.found+0x4_0308), flagged(num(x.op, 3, 4, 255), x.found+0x4_03FF),
			byBlock(num(x.op, 3, 3, 7), x.three+0x1DB, x.found+0x3_0307), byBlock(num(x.op, 3, 3, 8), x.eight+0x308, x.found+0x3_0308), byBlock(num(x.op, 3, 3, 255), x.eight+0x3FF, x.found+0x3_03FF), flagged(num(x.op, 3, 3, 256), x.found+0x403_7380), flagged(num(x.op, 8, 8, 7), x.found+0x8_0807),
			keeping(num(x.op, 3, 3, 257), no, x.plain+0x3_1301), keeping(num(x.op, 3, 3, 4095), no, x.plain+0x403_73FF), flagged(num(x.op, 3, 3, 4096), x.found+0x403_5380), never(num(x.op, 3, 3, 4097)), flagged(num(x.op, 3, 3, 0xFFFFFFFF), x.found+0x3_33FF), never(num(x.op, 3, 3, 0xFFFFFFFE)), never(num(x.op, 3, 3, 1<<32)),
		)
	}
	for _, x := range []struct{ op, one, two int }{{api.OpLsl, 0x0000, 0xEA4F_0000}, {api.OpLsr, 0x0800, 0xEA4F_0010}, {api.OpAsr, 0x1000, 0xEA4F_0020}} {
		by32 := byBlock(num(x.op, 3, 4, 32), x.one+0x23, x.two+0x0304)
		if x.op == api.OpLsl {
			by32 = never(by32.i)
		}
		expectWays(t, never(num(x.op, 3, 4, 0)), byBlock(num(x.op, 3, 4, 1), x.one+0x63, x.two+0x0344), byBlock(num(x.op, 3, 4, 31), x.one+0x7E3, x.two+0x73C4), by32, never(num(x.op, 3, 4, 33)))
	}
	expectWays(t, never(num(api.OpRor, 3, 4, 0)), flagged(num(api.OpRor, 3, 4, 1), 0xEA4F_0374), flagged(num(api.OpRor, 3, 4, 31), 0xEA4F_73F4), never(num(api.OpRor, 3, 4, 32)))
}

func TestLoadsAndStoresAtWhichWidthsEnd(t *testing.T) {
	for _, x := range []struct{ op, step, one, two, sp int }{
		{api.OpLdr, 4, 0x6800, 0xF8D0_0000, 0x9800}, {api.OpStr, 4, 0x6000, 0xF8C0_0000, 0x9000}, {api.OpLdrb, 1, 0x7800, 0xF890_0000, no}, {api.OpStrb, 1, 0x7000, 0xF880_0000, no}, {api.OpLdrh, 2, 0x8800, 0xF8B0_0000, no}, {api.OpStrh, 2, 0x8000, 0xF8A0_0000, no},
	} {
		at, most := x.two+0x6_5000, 31*x.step
		expectWays(t,
			keeping(num(x.op, 5, 6, 0), x.one+0x35, at), keeping(num(x.op, 5, 6, most), x.one+0x7F5, at+most), keeping(num(x.op, 5, 6, most+x.step), no, at+most+x.step), keeping(num(x.op, 5, 6, most+1), no, at+most+1), keeping(num(x.op, 5, 6, 4095), no, at+4095), never(num(x.op, 5, 6, 4096)), never(num(x.op, 5, 6, -1)),
			keeping(num(x.op, 8, 6, 0), no, x.two+0x6_8000), keeping(num(x.op, 5, 8, 0), no, x.two+0x8_5000), never(num(x.op, 13, 6, 0)), never(num(x.op, 5, 15, 0)),
		)
		for n := 1; n < x.step; n++ {
			expectWays(t, keeping(num(x.op, 5, 6, n), no, at+n), keeping(num(x.op, 5, 6, most-n), no, at+most-n))
		}
		at = x.two + 0xD_5000
		if x.sp == no {
			expectWays(t, keeping(num(x.op, 5, 13, 0), no, at), keeping(num(x.op, 5, 13, 4), no, at+4))
			continue
		}
		expectWays(t, keeping(num(x.op, 5, 13, 0), x.sp+0x500, at), keeping(num(x.op, 5, 13, 128), x.sp+0x520, at+128), keeping(num(x.op, 5, 13, 1020), x.sp+0x5FF, at+1020), keeping(num(x.op, 5, 13, 1018), no, at+1018), keeping(num(x.op, 5, 13, 1024), no, at+1024), keeping(num(x.op, 5, 13, 4095), no, at+4095), never(num(x.op, 5, 13, 4096)), keeping(num(x.op, 8, 13, 4), no, x.two+0xD_8004))
	}
	for _, x := range []struct{ op, one, two int }{{api.OpLdr, 0x5800, 0xF850_0000}, {api.OpStr, 0x5000, 0xF840_0000}, {api.OpLdrb, 0x5C00, 0xF810_0000}, {api.OpStrb, 0x5400, 0xF800_0000}, {api.OpLdrh, 0x5A00, 0xF830_0000}, {api.OpStrh, 0x5200, 0xF820_0000}} {
		expectWays(t, keeping(reg(x.op, 7, 7, 7), x.one+0x1FF, x.two+0x7_7007), keeping(reg(x.op, 8, 7, 7), no, x.two+0x7_8007), keeping(reg(x.op, 7, 8, 7), no, x.two+0x8_7007), keeping(reg(x.op, 7, 7, 8), no, x.two+0x7_7008), never(reg(x.op, 7, 7, 13)), never(reg(x.op, 13, 7, 7)))
	}
}

func TestRegistersAtWhichWidthsEnd(t *testing.T) {
	for _, x := range []struct{ op, one, two int }{
		{api.OpAnd, 0x4000, 0xEA00_0000}, {api.OpEor, 0x4040, 0xEA80_0000}, {api.OpOrr, 0x4300, 0xEA40_0000}, {api.OpBic, 0x4380, 0xEA20_0000}, {api.OpAdc, 0x4140, 0xEB40_0000}, {api.OpSbc, 0x4180, 0xEB60_0000},
		{api.OpLsl, 0x4080, 0xFA00_F000}, {api.OpLsr, 0x40C0, 0xFA20_F000}, {api.OpAsr, 0x4100, 0xFA40_F000}, {api.OpRor, 0x41C0, 0xFA60_F000},
	} {
		expectWays(t, byBlock(reg(x.op, 7, 7, 7), x.one+0x3F, x.two+0x7_0707), flagged(reg(x.op, 8, 8, 7), x.two+0x8_0807), flagged(reg(x.op, 7, 7, 8), x.two+0x7_0708), flagged(reg(x.op, 14, 14, 14), x.two+0xE_0E0E), never(reg(x.op, 13, 13, 7)), never(reg(x.op, 7, 7, 13)), never(reg(x.op, 15, 15, 7)))
	}
	expectWays(t,
		byBlock(reg(api.OpSub, 7, 7, 7), 0x1BFF, 0xEBA7_0707), flagged(reg(api.OpSub, 8, 7, 7), 0xEBA7_0807), flagged(reg(api.OpSub, 7, 8, 7), 0xEBA8_0707), flagged(reg(api.OpSub, 7, 7, 8), 0xEBA7_0708), byBlock(reg(api.OpAdd, 7, 6, 7), 0x19F7, 0xEB06_0707), flagged(reg(api.OpAdd, 8, 6, 7), 0xEB06_0807), flagged(reg(api.OpAdd, 7, 8, 7), 0xEB08_0707), flagged(reg(api.OpAdd, 7, 6, 8), 0xEB06_0708),
		ways{reg(api.OpAdd, 14, 14, 14), widths{0x44F6, 0xEB0E_0E0E}, widths{0x44F6, 0xEB0E_0E0E}, widths{no, 0xEB1E_0E0E}, widths{no, 0xEB1E_0E0E}}, never(reg(api.OpAdd, 13, 13, 1)), never(reg(api.OpAdd, 1, 1, 13)),
		keeping(reg(api.OpCmp, 0, 7, 7), 0x42BF, 0xEBB7_0F07), keeping(reg(api.OpCmp, 0, 8, 7), 0x45B8, 0xEBB8_0F07), keeping(reg(api.OpCmp, 0, 7, 14), 0x4577, 0xEBB7_0F0E), never(reg(api.OpCmp, 0, 7, 13)), keeping(num(api.OpCmp, 0, 7, 5), 0x2F05, 0xF1B7_0F05), keeping(num(api.OpCmp, 0, 8, 5), no, 0xF1B8_0F05),
		byBlock(num(api.OpMov, 7, 0, 5), 0x2705, 0xF04F_0705), flagged(num(api.OpMov, 8, 0, 5), 0xF04F_0805), never(num(api.OpMov, 13, 0, 5)), ways{reg(api.OpMov, 7, 0, 8), widths{0x4647, 0xEA4F_0708}, widths{0x4647, 0xEA4F_0708}, widths{no, 0xEA5F_0708}, widths{no, 0xEA5F_0708}}, never(reg(api.OpMov, 15, 0, 8)), never(reg(api.OpMov, 8, 0, 15)),
		byBlock(reg(api.OpMvn, 7, 0, 6), 0x43F7, 0xEA6F_0706), flagged(reg(api.OpMvn, 7, 0, 8), 0xEA6F_0708), byBlock(num(api.OpRsb, 7, 7, 0), 0x427F, 0xF1C7_0700), flagged(num(api.OpRsb, 7, 8, 0), 0xF1C8_0700), byBlock(num(api.OpLsl, 7, 7, 4), 0x013F, 0xEA4F_1707), flagged(num(api.OpLsl, 8, 7, 4), 0xEA4F_1807), flagged(num(api.OpLsl, 7, 8, 4), 0xEA4F_1708),
		ways{reg(api.OpMul, 7, 7, 7), widths{no, 0xFB07_F707}, widths{0x437F, 0xFB07_F707}, none, none}, keeping(reg(api.OpMul, 7, 8, 7), no, 0xFB08_F707), keeping(reg(api.OpTst, 0, 7, 7), 0x423F, 0xEA17_0F07), keeping(reg(api.OpTst, 0, 7, 8), no, 0xEA17_0F08),
		keeping(num(api.OpLit, 7, 0, 4), 0x4F01, 0xF8DF_7004), keeping(num(api.OpLit, 8, 0, 4), no, 0xF8DF_8004), keeping(num(api.OpAdr, 7, 0, 4), 0xA701, 0xF20F_0704), keeping(num(api.OpAdr, 8, 0, 4), no, 0xF20F_0804), never(num(api.OpLit, 13, 0, 4)), never(num(api.OpAdr, 15, 0, 4)),
		outside(num(api.OpCbz, 0, 7, 4), 0xB117, no), never(num(api.OpCbz, 0, 8, 4)), outside(num(api.OpCbnz, 0, 7, 4), 0xB917, no), never(num(api.OpCbnz, 0, 8, 4)), keeping(reg(api.OpBx, 0, 0, 14), 0x4770, no), never(reg(api.OpBx, 0, 0, 15)),
	)
}

func TestListsAtWhichWidthsEnd(t *testing.T) {
	expectWays(t,
		keeping(many(api.OpPush, 0, 0xFF), 0xB4FF, 0xE92D_00FF), keeping(many(api.OpPush, 0, 0x40FF), 0xB5FF, 0xE92D_40FF), keeping(many(api.OpPush, 0, 0x1FF), no, 0xE92D_01FF), keeping(many(api.OpPush, 0, 0x101), no, 0xE92D_0101), keeping(many(api.OpPush, 0, 0x4100), no, 0xE92D_4100), keeping(many(api.OpPush, 0, 0x5FFF), no, 0xE92D_5FFF), never(many(api.OpPush, 0, 0)), never(many(api.OpPush, 0, 0x8001)), never(many(api.OpPush, 0, 0x2001)), never(many(api.OpPush, 0, 0x1_0001)),
		keeping(many(api.OpPop, 0, 0xFF), 0xBCFF, 0xE8BD_00FF), keeping(many(api.OpPop, 0, 0x80FF), 0xBDFF, 0xE8BD_80FF), keeping(many(api.OpPop, 0, 0x1FF), no, 0xE8BD_01FF), keeping(many(api.OpPop, 0, 0x8100), no, 0xE8BD_8100), keeping(many(api.OpPop, 0, 0x9FFF), no, 0xE8BD_9FFF), keeping(many(api.OpPop, 0, 0x5FFF), no, 0xE8BD_5FFF), never(many(api.OpPop, 0, 0)), never(many(api.OpPop, 0, 0xC001)), never(many(api.OpPop, 0, 0x2001)),
		keeping(many(api.OpStm, 7, 0x7F), 0xC77F, 0xE8A7_007F), keeping(many(api.OpStm, 7, 0x101), no, 0xE8A7_0101), keeping(many(api.OpStm, 8, 0x03), no, 0xE8A8_0003), keeping(many(api.OpStm, 7, 0x4001), no, 0xE8A7_4001), never(many(api.OpStm, 7, 1)), never(many(api.OpStm, 7, 0xFF)), never(many(api.OpStm, 13, 3)), never(many(api.OpStm, 7, 0x8001)),
		keeping(many(api.OpLdm, 7, 0x7F), 0xCF7F, 0xE8B7_007F), keeping(many(api.OpLdm, 7, 0x101), no, 0xE8B7_0101), keeping(many(api.OpLdm, 8, 0x03), no, 0xE8B8_0003), keeping(many(api.OpLdm, 7, 0x4001), no, 0xE8B7_4001), never(many(api.OpLdm, 7, 1)), never(many(api.OpLdm, 7, 0xFF)), never(many(api.OpLdm, 13, 3)), never(many(api.OpLdm, 7, 0x8001)),
	)
}

func TestOffsetsAtWhichWidthsEnd(t *testing.T) {
	for c := range api.AL {
		one, two := 0xD000+0x100*c, 0xF000_8000+0x40_0000*c
		expectWays(t,
			outside(onCond(api.OpB, c, 254), one+0x7F, two+0x7F), outside(onCond(api.OpB, c, 256), no, two+0x80), outside(onCond(api.OpB, c, -256), one+0x80, two+0x43F_2F80), outside(onCond(api.OpB, c, -258), no, two+0x43F_2F7F),
			outside(onCond(api.OpB, c, 1<<20-2), no, two+0x3F_2FFF), never(onCond(api.OpB, c, 1<<20)), outside(onCond(api.OpB, c, -1<<20), no, two+0x400_0000), never(onCond(api.OpB, c, -1<<20-2)), never(onCond(api.OpB, c, 1)),
		)
	}
	expectWays(t,
		keeping(onCond(api.OpB, api.AL, 2046), 0xE3FF, 0xF000_BBFF), keeping(onCond(api.OpB, api.AL, 2048), no, 0xF000_BC00), keeping(onCond(api.OpB, api.AL, -2048), 0xE400, 0xF7FF_BC00), keeping(onCond(api.OpB, api.AL, -2050), no, 0xF7FF_BBFF),
		keeping(onCond(api.OpB, api.AL, 1<<24-2), no, 0xF3FF_97FF), never(onCond(api.OpB, api.AL, 1<<24)), keeping(onCond(api.OpB, api.AL, -1<<24), no, 0xF400_9000), never(onCond(api.OpB, api.AL, -1<<24-2)), never(onCond(api.OpB, api.AL, 1)),
		keeping(num(api.OpBl, 0, 0, 2), no, 0xF000_F801), keeping(num(api.OpBl, 0, 0, 1<<24-2), no, 0xF3FF_D7FF), never(num(api.OpBl, 0, 0, 1<<24)), keeping(num(api.OpBl, 0, 0, -1<<24), no, 0xF400_D000), never(num(api.OpBl, 0, 0, -1<<24-2)), never(num(api.OpBl, 0, 0, 1)),
	)
	for op, one := range map[int]int{api.OpCbz: 0xB100, api.OpCbnz: 0xB900} {
		expectWays(t, outside(num(op, 0, 7, 0), one+7, no), outside(num(op, 0, 7, 126), one+0x2FF, no), never(num(op, 0, 7, 128)), never(num(op, 0, 7, -2)), never(num(op, 0, 7, 1)))
	}
	expectWays(t,
		keeping(num(api.OpLit, 6, 0, 0), 0x4E00, 0xF8DF_6000), keeping(num(api.OpLit, 6, 0, 1020), 0x4EFF, 0xF8DF_63FC), keeping(num(api.OpLit, 6, 0, 1024), no, 0xF8DF_6400), keeping(num(api.OpLit, 6, 0, 1018), no, 0xF8DF_63FA), keeping(num(api.OpLit, 6, 0, 1), no, 0xF8DF_6001), keeping(num(api.OpLit, 6, 0, 4095), no, 0xF8DF_6FFF), never(num(api.OpLit, 6, 0, 4096)), keeping(num(api.OpLit, 6, 0, -4095), no, 0xF85F_6FFF), never(num(api.OpLit, 6, 0, -4096)),
		keeping(num(api.OpAdr, 6, 0, 0), 0xA600, 0xF20F_0600), keeping(num(api.OpAdr, 6, 0, 1020), 0xA6FF, 0xF20F_36FC), keeping(num(api.OpAdr, 6, 0, 1024), no, 0xF20F_4600), keeping(num(api.OpAdr, 6, 0, 1018), no, 0xF20F_36FA), keeping(num(api.OpAdr, 6, 0, 2), no, 0xF20F_0602), keeping(num(api.OpAdr, 6, 0, 4095), no, 0xF60F_76FF), never(num(api.OpAdr, 6, 0, 4096)), keeping(num(api.OpAdr, 6, 0, -4095), no, 0xF6AF_76FF), never(num(api.OpAdr, 6, 0, -4096)),
	)
}

// wanted is what the chapters below have of each width, which is nothing of what Check refuses.
func wanted(i api.Ins, it bool) widths {
	w := none
	if isa.Check(i) != api.OK {
		return w
	}
	if a, ok := narrow.Encode(i, it); ok {
		w.one = a
	}
	if a, b, ok := wide.Encode(i, it); ok {
		w.two = a<<16 | b
	}
	return w
}

// hold holds i against the layers below, in all four ways.
func hold(t *testing.T, i api.Ins) {
	t.Helper()
	for _, s := range []bool{false, true} {
		for _, it := range []bool{false, true} {
			i.S = s
			expect(t, i, it, wanted(i, it))
		}
	}
	if t.Failed() {
		t.FailNow()
	}
}

func eachOp(do func(op int)) {
	for op := api.OpAnd; op <= api.OpTbb; op++ {
		do(op)
	}
}

func TestRegistersOfEachOperation(t *testing.T) {
	l := []int{0, 1, 6, 7, 8, 12, 13, 14, 15}
	eachOp(func(op int) {
		for _, d := range l {
			for _, n := range l {
				for _, m := range l {
					hold(t, reg(op, d, n, m))
				}
				hold(t, num(op, d, n, 4))
			}
		}
	})
}

func TestNumbersOfEachOperation(t *testing.T) {
	eachOp(func(op int) {
		for x := range 300 {
			hold(t, num(op, 1, 1, x))
		}
		for about := 256; about <= 4096; about += 128 {
			for x := about - 5; x <= about+5; x++ {
				hold(t, num(op, 1, 2, x))
				hold(t, num(op, 1, 0, x))
				hold(t, num(op, 0, 1, -x))
				hold(t, num(op, 1, 13, x))
				hold(t, num(op, 9, 0, -x))
			}
		}
	})
}

func TestWordsOfEachOperation(t *testing.T) {
	for imm := 0; imm < 4096; imm += 3 {
		x := int(expand.Expand(imm))
		for op := api.OpAnd; op <= api.OpTeq; op++ {
			i := num(op, 1, 1, x)
			if op == api.OpMov || op == api.OpMvn {
				i.Rn = 0
			}
			if op >= api.OpCmp {
				i.Rd = 0
			}
			hold(t, i)
			i.Imm ^= 1
			hold(t, i)
		}
	}
}

func TestListsOfEachOperation(t *testing.T) {
	for list := range 1 << 16 {
		for _, i := range []api.Ins{many(api.OpPush, 0, list), many(api.OpPop, 0, list)} {
			expect(t, i, false, wanted(i, false))
			expect(t, i, true, wanted(i, true))
		}
		if list%7 == 0 {
			for _, n := range []int{0, 7, 8} {
				hold(t, many(api.OpStm, n, list))
				hold(t, many(api.OpLdm, n, list))
			}
		}
	}
}

func TestOffsetsOfBranches(t *testing.T) {
	for n := range 26 {
		for x := -4; x <= 4; x++ {
			for c := range 16 {
				hold(t, onCond(api.OpB, c, 1<<n+x))
				hold(t, onCond(api.OpB, c, -1<<n+x))
			}
			for _, op := range []int{api.OpBl, api.OpCbz, api.OpCbnz} {
				hold(t, num(op, 0, 0, 1<<n+x))
				hold(t, num(op, 0, 0, -1<<n+x))
			}
		}
	}
}

func TestBlocks(t *testing.T) {
	for c := -2; c <= 17; c++ {
		for mask := -2; mask <= 18; mask++ {
			// A block of al has no other condition: of its mask all bits behind the first are 0.
			isBlock := c >= 0 && c <= 14 && mask >= 1 && mask <= 15 && (c != api.AL || slices.Contains([]int{1, 2, 4, 8}, mask))
			x := never(onCond(api.OpIt, c, mask))
			if isBlock {
				x = outside(x.i, 0xBF00+16*c+mask, no)
			}
			expectWays(t, x)
		}
	}
}

// encoded are instructions that have halfwords outside of blocks, some of each operation.
func encoded() []api.Ins {
	return []api.Ins{
		setting(reg(api.OpAnd, 1, 1, 2)), reg(api.OpEor, 1, 2, 3), num(api.OpOrr, 1, 2, 5), setting(reg(api.OpBic, 1, 1, 2)), setting(reg(api.OpAdd, 1, 2, 3)), reg(api.OpAdd, 8, 8, 3), num(api.OpAdd, 1, 2, 257), reg(api.OpAdc, 1, 1, 2), setting(num(api.OpSub, 1, 1, 100)), num(api.OpSbc, 1, 2, 5), setting(num(api.OpRsb, 1, 2, 0)),
		setting(num(api.OpMov, 1, 0, 5)), setting(reg(api.OpMov, 1, 0, 2)), reg(api.OpMov, 13, 0, 2), num(api.OpMvn, 1, 0, 5), num(api.OpCmp, 0, 1, 5), reg(api.OpCmp, 0, 8, 2), reg(api.OpCmn, 0, 1, 2), reg(api.OpTst, 0, 1, 2), reg(api.OpTeq, 0, 1, 2),
		setting(num(api.OpLsl, 1, 2, 3)), reg(api.OpLsr, 1, 1, 2), setting(num(api.OpAsr, 1, 2, 32)), num(api.OpRor, 1, 2, 5), reg(api.OpMul, 1, 2, 1), reg(api.OpUdiv, 1, 2, 3), reg(api.OpSdiv, 1, 2, 3), num(api.OpMovw, 1, 0, 5), num(api.OpMovt, 1, 0, 5),
		num(api.OpLdr, 1, 13, 512), num(api.OpLdrb, 1, 2, 3), reg(api.OpLdrh, 1, 2, 3), num(api.OpStr, 1, 2, 8), reg(api.OpStrb, 1, 13, 3), num(api.OpStrh, 1, 2, 6), many(api.OpLdm, 2, 3), many(api.OpStm, 2, 0x101), many(api.OpPush, 0, 0x4001), many(api.OpPop, 0, 0x8001),
		onCond(api.OpB, api.NE, 8), onCond(api.OpB, api.AL, 8), num(api.OpBl, 0, 0, 8), num(api.OpCbz, 0, 1, 8), num(api.OpCbnz, 0, 1, 8), reg(api.OpBx, 0, 0, 14), num(api.OpLit, 1, 0, 8), num(api.OpLit, 1, 0, -8), num(api.OpAdr, 1, 0, 8), onCond(api.OpIt, api.NE, 8), {Op: api.OpNop}, num(api.OpBkpt, 0, 0, 8), reg(api.OpTbb, 0, 2, 3),
	}
}

// fields are the places of an instruction's numbers.
func fields(i *api.Ins) []*int {
	return []*int{&i.Op, &i.Cond, &i.Rd, &i.Rn, &i.Rm, &i.Imm, &i.Mode, &i.List}
}

func TestEncodedHaveHalfwords(t *testing.T) {
	for _, i := range encoded() {
		if _, err := Best(i, false); err != api.OK {
			t.Errorf("Best(%+v, false): %d", i, err)
		}
	}
}

// expectNone holds that i has no halfwords, in blocks and out of them.
func expectNone(t *testing.T, i api.Ins) {
	t.Helper()
	expect(t, i, false, none)
	expect(t, i, true, none)
}

func TestChangedFields(t *testing.T) {
	for _, whole := range encoded() {
		for f := range fields(&whole) {
			for _, x := range []int{0, 1, 2, 3, 7, 8, 12, 13, 14, 15, 16, 64, 255, 256, 257, 4095, 4096, 1 << 16, 1 << 31, 1 << 32, 1<<32 + 1, -1, -8, -1 << 32, math.MaxInt, math.MinInt} {
				i := whole
				*fields(&i)[f] = x
				hold(t, i)
			}
		}
	}
}

func TestFieldsBeyond32Bits(t *testing.T) {
	for _, whole := range encoded() {
		for f := range fields(&whole) {
			for _, beyond := range []int{1 << 32, -1 << 32, 1 << 33, 1 << 40, 1 << 62, math.MinInt} {
				i := whole
				*fields(&i)[f] += beyond
				expectNone(t, i)
			}
		}
	}
}

// Check takes none of these: each is an instruction but for one field, which is not its own, or which it has to tell.
func TestFieldsThatAreNotTheirOwn(t *testing.T) {
	for _, i := range []api.Ins{
		{Op: api.OpAnd, Rd: 1, Rn: 1, Rm: 2, Mode: api.ModeReg, Cond: 1}, {Op: api.OpAnd, Rd: 1, Rn: 1, Rm: 2, Mode: api.ModeReg, Imm: 1}, {Op: api.OpAnd, Rd: 1, Rn: 1, Rm: 2, Mode: api.ModeReg, List: 1}, {Op: api.OpAnd, Rd: 1, Rn: 1, Rm: 2}, {Op: api.OpAdd, Rd: 1, Rn: 2, Rm: 3, Imm: 1, Mode: api.ModeImm}, {Op: api.OpRsb, Rd: 1, Rn: 2, Rm: 3, Mode: api.ModeImm, S: true},
		{Op: api.OpMov, Rd: 1, Rn: 1, Imm: 5, Mode: api.ModeImm}, {Op: api.OpMov, Rd: 1, Rn: 15, Imm: 5, Mode: api.ModeImm}, {Op: api.OpMov, Rd: 13, Rm: 1, Mode: api.ModeReg, S: true}, {Op: api.OpMvn, Rd: 1, Rn: 1, Rm: 2, Mode: api.ModeReg}, {Op: api.OpTst, Rd: 1, Rn: 1, Rm: 2, Mode: api.ModeReg}, {Op: api.OpTeq, Rd: 15, Rn: 1, Rm: 2, Mode: api.ModeReg}, {Op: api.OpCmp, Rn: 1, Imm: 5, Rm: 2, Mode: api.ModeImm}, {Op: api.OpCmp, Rn: 1, Rm: 2, Mode: api.ModeReg, S: true}, {Op: api.OpCmn, Rn: 1, Rm: 2, Mode: api.ModeReg, S: true},
		{Op: api.OpLsl, Rd: 1, Rn: 2, Rm: 3, Imm: 1, Mode: api.ModeReg}, {Op: api.OpRor, Rd: 1, Rn: 2, Rm: 3, Imm: 1, Mode: api.ModeImm}, {Op: api.OpMul, Rd: 1, Rn: 2, Rm: 1}, {Op: api.OpMul, Rd: 1, Rn: 2, Rm: 1, Mode: api.ModeReg, S: true}, {Op: api.OpMul, Rd: 1, Rn: 2, Imm: 1, Mode: api.ModeImm}, {Op: api.OpUdiv, Rd: 1, Rn: 2, Rm: 3, Mode: api.ModeReg, S: true}, {Op: api.OpSdiv, Rd: 1, Rn: 2, Rm: 3, Imm: 1, Mode: api.ModeReg},
		{Op: api.OpMovw, Rd: 1, Imm: 5, Mode: api.ModeImm, S: true}, {Op: api.OpMovt, Rd: 1, Rm: 1, Imm: 5, Mode: api.ModeImm}, {Op: api.OpMovt, Rd: 1, Imm: 5}, {Op: api.OpLdr, Rd: 1, Rn: 2, Imm: 4, Mode: api.ModeImm, S: true}, {Op: api.OpLdr, Rd: 1, Rn: 13, Imm: 4, Rm: 1, Mode: api.ModeImm}, {Op: api.OpStrb, Rd: 1, Rn: 2, Rm: 3, Imm: 1, Mode: api.ModeReg}, {Op: api.OpStrh, Rd: 1, Rn: 2, Imm: 4},
		{Op: api.OpStm, Rn: 2, List: 3, Rd: 1}, {Op: api.OpStm, Rn: 2, List: 3, Mode: api.ModeReg}, {Op: api.OpLdm, Rn: 2, List: 3, S: true}, {Op: api.OpLdm, Rn: 2, List: 7}, {Op: api.OpPush, List: 3, Mode: api.ModeImm}, {Op: api.OpPush, List: 3, Rn: 13}, {Op: api.OpPop, List: 3, Imm: 4}, {Op: api.OpPop, List: 3, Cond: api.AL},
		{Op: api.OpB, Cond: api.AL, Mode: api.ModeImm, Rd: 1}, {Op: api.OpB, Cond: api.AL}, {Op: api.OpB, Cond: 15, Mode: api.ModeImm}, {Op: api.OpB, Cond: -1, Mode: api.ModeImm}, {Op: api.OpB, Mode: api.ModeImm, S: true}, {Op: api.OpBl, Rn: 1, Mode: api.ModeImm}, {Op: api.OpBl, Cond: api.AL, Mode: api.ModeImm}, {Op: api.OpBl}, {Op: api.OpCbz, Rn: 1, Cond: api.AL, Mode: api.ModeImm}, {Op: api.OpCbnz, Rn: 1, Rd: 1, Mode: api.ModeImm}, {Op: api.OpBx, Rm: 14}, {Op: api.OpBx, Rm: 14, Rd: 14, Mode: api.ModeReg}, {Op: api.OpBx, Rm: 14, Cond: api.AL, Mode: api.ModeReg},
		{Op: api.OpLit, Rd: 1, Rn: 15, Imm: 4, Mode: api.ModeImm}, {Op: api.OpAdr, Rd: 1, Imm: 4}, {Op: api.OpAdr, Rd: 1, Imm: 4, Mode: api.ModeImm, S: true}, {Op: api.OpIt, Imm: 8}, {Op: api.OpIt, Imm: 8, Rd: 1, Mode: api.ModeImm}, {Op: api.OpIt, Mode: api.ModeImm}, {Op: api.OpNop, Rd: 1}, {Op: api.OpNop, Imm: 1}, {Op: api.OpNop, S: true}, {Op: api.OpNop, Mode: api.ModeImm}, {Op: api.OpBkpt, Imm: 1}, {Op: api.OpBkpt, Imm: 1, List: 1, Mode: api.ModeImm}, {Op: api.OpTbb, Rn: 1, Rm: 2}, {Op: api.OpTbb, Rd: 15, Rn: 1, Rm: 2, Mode: api.ModeReg},
	} {
		expectNone(t, i)
	}
}

func TestNoOperation(t *testing.T) {
	for _, op := range []int{0, -1, -5, -43, -45, 46, 47, 64, 255, 256 + api.OpNop, 1<<16 + api.OpNop, 1<<32 + api.OpNop, 1<<32 + api.OpAnd, -1<<32 + api.OpBkpt, math.MaxInt, math.MinInt} {
		for _, i := range append(encoded(), api.Ins{}) {
			i.Op = op
			expectNone(t, i)
		}
	}
}

func TestNoMode(t *testing.T) {
	for _, mode := range []int{-1, -2, 3, 4, 256, 1<<32 + api.ModeImm, 1<<32 + api.ModeReg, 1 << 32, math.MaxInt, math.MinInt} {
		for _, i := range encoded() {
			i.Mode = mode
			expectNone(t, i)
		}
	}
}

// calls are Best, and Encode at both widths, outside of blocks.
func calls() map[string]func(i api.Ins) ([]int, api.Errno) {
	return map[string]func(i api.Ins) ([]int, api.Errno){
		"Best":          func(i api.Ins) ([]int, api.Errno) { return Best(i, false) },
		"Encode to one": func(i api.Ins) ([]int, api.Errno) { return Encode(i, false, false) },
		"Encode to two": func(i api.Ins) ([]int, api.Errno) { return Encode(i, true, false) },
	}
}

// spoil changes all that is there of an answer, what lies behind its end, too.
func spoil(l []int) {
	l = l[:cap(l)]
	for n := range l {
		l[n] = no
	}
}

func TestEachAnswerIsNewMemory(t *testing.T) {
	for name, call := range calls() {
		for _, i := range encoded() {
			want, _ := call(i)
			want = slices.Clone(want)
			first, _ := call(i)
			second, _ := call(i)
			spoil(first)
			if !slices.Equal(second, want) {
				t.Errorf("%s of %+v: %#04x, not %#04x, when the answer ahead of it is changed", name, i, second, want)
			}
			spoil(second)
			if third, _ := call(i); !slices.Equal(third, want) {
				t.Errorf("%s of %+v: %#04x, not %#04x, behind an answer that is changed", name, i, third, want)
			}
		}
	}
}

func TestNoCallChangesAnEarlierAnswer(t *testing.T) {
	for name, call := range calls() {
		for _, i := range encoded() {
			got, _ := call(i)
			want := slices.Clone(got)
			for _, later := range encoded() {
				call(later)
				Best(later, true)
			}
			if !slices.Equal(got, want) {
				t.Errorf("%s of %+v: %#04x, not %#04x, behind later calls", name, i, got, want)
			}
		}
	}
}

func TestAnswersHangOnNoOtherCall(t *testing.T) {
	l := encoded()
	for name, call := range calls() {
		for _, i := range l {
			want, wantErr := call(i)
			for _, between := range []api.Ins{{}, {Op: api.OpNop}, num(api.OpMov, 1, 0, 257), reg(api.OpTbb, 0, 1, 2), onCond(api.OpIt, api.EQ, 8)} {
				Best(between, true)
				Encode(between, true, true)
				Encode(between, false, true)
				if got, err := call(i); !slices.Equal(got, want) || err != wantErr {
					t.Errorf("%s of %+v behind %+v: %#04x, %d, not %#04x, %d", name, i, between, got, err, want, wantErr)
				}
			}
		}
	}
}
