package tall

import (
	"math"
	"strings"
	"testing"

	"cartouche/api"
	"cartouche/expand"
	"cartouche/isa"
	"cartouche/wide"
)

// Both halfwords are told as one number here, the first of them above.

// sBit is S in both halfwords.
const sBit = 0x0010_0000

// no is told where halfwords are of no instruction.
var no = api.Ins{}

func reg(op, d, n, m int) api.Ins {
	return api.Ins{Op: op, Rd: d, Rn: n, Rm: m, Mode: api.ModeReg}
}

func num(op, d, n, x int) api.Ins {
	return api.Ins{Op: op, Rd: d, Rn: n, Imm: x, Mode: api.ModeImm}
}

func many(op, n, list int) api.Ins {
	return api.Ins{Op: op, Rn: n, List: list}
}

func onCond(op, c, x int) api.Ins {
	return api.Ins{Op: op, Cond: c, Imm: x, Mode: api.ModeImm}
}

// setting is i, telling that it sets flags.
func setting(i api.Ins) api.Ins {
	i.S = true
	return i
}

// expect holds Decode against an instruction, or none.
func expect(t *testing.T, w int, it bool, want api.Ins) {
	t.Helper()
	expectOf(t, w>>16, w&0xFFFF, it, want)
}

func expectOf(t *testing.T, a, b int, it bool, want api.Ins) {
	t.Helper()
	if got, ok := Decode(a, b, it); got != want || ok != (want != no) {
		t.Errorf("Decode(%#04x, %#04x, %v): %+v, %v, not %+v", a, b, it, got, ok, want)
	}
}

// ways is both halfwords, and what is read of them out of blocks and in them, as they are and with the bit of S turned; where other is told, the latter is not asked.
type ways struct {
	w           int
	i, in, sets api.Ins
	other       bool
}

func expectWays(t *testing.T, l ...ways) {
	t.Helper()
	for _, x := range l {
		expect(t, x.w, false, x.i)
		expect(t, x.w, true, x.in)
		if !x.other {
			expect(t, x.w^sBit, false, x.sets)
			expect(t, x.w^sBit, true, x.sets)
		}
	}
}

// flagged is what may tell S, in blocks and out of them.
func flagged(w int, i api.Ins) ways { return ways{w, i, i, setting(i), false} }

// keeping is likewise, but nothing is read where the bit of S is turned.
func keeping(w int, i api.Ins) ways { return ways{w, i, i, no, false} }

// anywhere is likewise, but the bit of S is one of a field, or leads to another operation.
func anywhere(w int, i api.Ins) ways { return ways{w, i, i, no, true} }

// outside is likewise, and nothing is read within a block.
func outside(w int, i api.Ins) ways { return ways{w, i, no, no, true} }

// never is what is no instruction, in blocks and out of them.
func never(t *testing.T, l ...int) {
	t.Helper()
	for _, w := range l {
		expect(t, w, false, no)
		expect(t, w, true, no)
	}
}

func TestDecodeOfTheExample(t *testing.T) {
	expect(t, 0xF04F_0001, false, num(api.OpMov, 0, 0, 1))
}

func TestDecodeOfEachRow(t *testing.T) {
	expectWays(t,
		flagged(0xF002_11AB, num(api.OpAnd, 1, 2, 0xAB00AB)), flagged(0xF102_11AB, num(api.OpAdd, 1, 2, 0xAB00AB)), flagged(0xEA22_0103, reg(api.OpBic, 1, 2, 3)),
		keeping(0xF202_1101, num(api.OpAdd, 1, 2, 257)), keeping(0xF2A2_1101, num(api.OpSub, 1, 2, 257)),
		flagged(0xEA4F_11C2, num(api.OpLsl, 1, 2, 7)), flagged(0xEA4F_11D2, num(api.OpLsr, 1, 2, 7)), flagged(0xEA4F_11E2, num(api.OpAsr, 1, 2, 7)), flagged(0xEA4F_11F2, num(api.OpRor, 1, 2, 7)),
		flagged(0xFA02_F103, reg(api.OpLsl, 1, 2, 3)), flagged(0xFA22_F103, reg(api.OpLsr, 1, 2, 3)), flagged(0xFA42_F103, reg(api.OpAsr, 1, 2, 3)), flagged(0xFA62_F103, reg(api.OpRor, 1, 2, 3)),
		keeping(0xFB02_F103, reg(api.OpMul, 1, 2, 3)), keeping(0xFB92_F1F3, reg(api.OpSdiv, 1, 2, 3)), keeping(0xFBB2_F1F3, reg(api.OpUdiv, 1, 2, 3)),
		keeping(0xF64A_31CD, num(api.OpMovw, 1, 0, 0xABCD)), keeping(0xF6CA_31CD, num(api.OpMovt, 1, 0, 0xABCD)),
		anywhere(0xF882_1345, num(api.OpStrb, 1, 2, 0x345)), anywhere(0xF892_1345, num(api.OpLdrb, 1, 2, 0x345)), anywhere(0xF8A2_1345, num(api.OpStrh, 1, 2, 0x345)), anywhere(0xF8B2_1345, num(api.OpLdrh, 1, 2, 0x345)), anywhere(0xF8C2_1345, num(api.OpStr, 1, 2, 0x345)), anywhere(0xF8D2_1345, num(api.OpLdr, 1, 2, 0x345)),
		anywhere(0xF802_1003, reg(api.OpStrb, 1, 2, 3)), anywhere(0xF812_1003, reg(api.OpLdrb, 1, 2, 3)), anywhere(0xF822_1003, reg(api.OpStrh, 1, 2, 3)), anywhere(0xF832_1003, reg(api.OpLdrh, 1, 2, 3)), anywhere(0xF842_1003, reg(api.OpStr, 1, 2, 3)), anywhere(0xF852_1003, reg(api.OpLdr, 1, 2, 3)),
		anywhere(0xE8A9_0103, many(api.OpStm, 9, 0x0103)), anywhere(0xE8B9_0103, many(api.OpLdm, 9, 0x0103)), keeping(0xE92D_4100, many(api.OpPush, 0, 0x4100)), keeping(0xE8BD_8100, many(api.OpPop, 0, 0x8100)),
		outside(0xF47F_AFFE, onCond(api.OpB, api.NE, -4)), anywhere(0xF7FF_BFFE, onCond(api.OpB, api.AL, -4)), anywhere(0xF7FF_FFFE, num(api.OpBl, 0, 0, -4)), anywhere(0xF000_F800, num(api.OpBl, 0, 0, 0)),
		keeping(0xF8DF_1008, num(api.OpLit, 1, 0, 8)), keeping(0xF85F_1008, num(api.OpLit, 1, 0, -8)), keeping(0xF60F_0103, num(api.OpAdr, 1, 0, 0x803)), keeping(0xF6AF_0103, num(api.OpAdr, 1, 0, -0x803)),
		keeping(0xF3AF_8000, api.Ins{Op: api.OpNop}), keeping(0xE8D1_F002, reg(api.OpTbb, 0, 1, 2)),
	)
}

func TestDecodeOfEachNumberedOperation(t *testing.T) {
	expectWays(t,
		flagged(0xF002_0105, num(api.OpAnd, 1, 2, 5)), flagged(0xF022_0105, num(api.OpBic, 1, 2, 5)), flagged(0xF042_0105, num(api.OpOrr, 1, 2, 5)), flagged(0xF082_0105, num(api.OpEor, 1, 2, 5)), flagged(0xF102_0105, num(api.OpAdd, 1, 2, 5)),
		flagged(0xF142_0105, num(api.OpAdc, 1, 2, 5)), flagged(0xF162_0105, num(api.OpSbc, 1, 2, 5)), flagged(0xF1A2_0105, num(api.OpSub, 1, 2, 5)), flagged(0xF1C2_0105, num(api.OpRsb, 1, 2, 5)),
		flagged(0xEA02_0103, reg(api.OpAnd, 1, 2, 3)), flagged(0xEA22_0103, reg(api.OpBic, 1, 2, 3)), flagged(0xEA42_0103, reg(api.OpOrr, 1, 2, 3)), flagged(0xEA82_0103, reg(api.OpEor, 1, 2, 3)), flagged(0xEB02_0103, reg(api.OpAdd, 1, 2, 3)),
		flagged(0xEB42_0103, reg(api.OpAdc, 1, 2, 3)), flagged(0xEB62_0103, reg(api.OpSbc, 1, 2, 3)), flagged(0xEBA2_0103, reg(api.OpSub, 1, 2, 3)), flagged(0xEBC2_0103, reg(api.OpRsb, 1, 2, 3)),
		flagged(0xF04F_0305, num(api.OpMov, 3, 0, 5)), flagged(0xF06F_0305, num(api.OpMvn, 3, 0, 5)), flagged(0xEA4F_0305, reg(api.OpMov, 3, 0, 5)), flagged(0xEA6F_0305, reg(api.OpMvn, 3, 0, 5)),
		keeping(0xF013_0F05, num(api.OpTst, 0, 3, 5)), keeping(0xF093_0F05, num(api.OpTeq, 0, 3, 5)), keeping(0xF113_0F05, num(api.OpCmn, 0, 3, 5)), keeping(0xF1B3_0F05, num(api.OpCmp, 0, 3, 5)),
		keeping(0xEA13_0F05, reg(api.OpTst, 0, 3, 5)), keeping(0xEA93_0F05, reg(api.OpTeq, 0, 3, 5)), keeping(0xEB13_0F05, reg(api.OpCmn, 0, 3, 5)), keeping(0xEBB3_0F05, reg(api.OpCmp, 0, 3, 5)),
	)
}

// What has no base is none of others' operations, and what has no result is none that tells S.
func TestDecodeWhereARegisterIs15(t *testing.T) {
	for number := range 16 {
		for _, at := range []int{0xF000_0005, 0xEA00_0005} {
			w := at + 0x20_0000*number
			if number != 2 && number != 3 {
				never(t, w+0xF_0300, w+0xF_0300+sBit)
			}
			if number != 0 && number != 4 && number != 8 && number != 13 {
				never(t, w+0x3_0F00+sBit)
			}
			never(t, w+0x3_0F00, w+0xF_0F00, w+0xF_0F00+sBit)
		}
	}
	// pc is no plain register, either, where others stand.
	never(t, 0xEA02_010F, 0xEA4F_010F, 0xEA12_0F0F, 0xF20F_0F01, 0xF202_0F01, 0xF2A2_0F01, 0xEA4F_0FC2, 0xEA4F_01CF, 0xFA0F_F103, 0xFA02_FF03, 0xFA02_F10F, 0xFB0F_F103, 0xFB02_FF03, 0xFB02_F10F, 0xFB9F_F1F3, 0xFB92_FFF3, 0xFB92_F1FF, 0xFBBF_F1F3, 0xFBB2_FFF3, 0xFBB2_F1FF, 0xF240_0F01, 0xF2C0_0F01, 0xF2AF_0F01)
	never(t, 0xF882_F001, 0xF88F_1001, 0xF892_F001, 0xF89F_1001, 0xF8A2_F001, 0xF8AF_1001, 0xF8B2_F001, 0xF8BF_1001, 0xF8C2_F001, 0xF8CF_1001, 0xF8D2_F001, 0xF802_F003, 0xF80F_1003, 0xF802_100F, 0xF832_100F, 0xF852_F003, 0xF852_100F, 0xF8DF_F008, 0xF85F_F008, 0xE8AF_0103, 0xE8BF_0103, 0xE8A9_8103, 0xE8B9_8103, 0xE92D_8100, 0xE8DF_F002, 0xE8D1_F00F)
}

func TestDecodeOfSPWhereARegisterIsPlain(t *testing.T) {
	for _, number := range []int{0, 1, 2, 4, 8, 10, 11, 13, 14} {
		w := 0x20_0000 * number
		never(t, w+0xF00D_0105, w+0xF002_0D05, w+0xEA0D_0103, w+0xEA02_0D03, w+0xEA02_010D, w+0xF01D_0F05, w+0xEA1D_0F03, w+0xEA12_0F0D)
	}
	never(t, 0xF04F_0D01, 0xF05F_0D01, 0xF06F_0D01, 0xEA4F_0D03, 0xEA4F_030D, 0xEA4F_0D0D, 0xEA5F_0D03, 0xEA5F_030D, 0xEA6F_0D03, 0xEA6F_030D)
	never(t, 0xF20D_0101, 0xF202_0D01, 0xF20D_0D08, 0xF2AD_0101, 0xF2A2_0D01, 0xF2AD_0D08, 0xEA4F_0DC2, 0xEA4F_01CD, 0xFA0D_F103, 0xFA02_FD03, 0xFA02_F10D, 0xFB0D_F103, 0xFB02_FD03, 0xFB02_F10D, 0xFB9D_F1F3, 0xFB92_FDF3, 0xFB92_F1FD, 0xFBBD_F1F3, 0xFBB2_FDF3, 0xFBB2_F1FD, 0xF240_0D01, 0xF2C0_0D01, 0xF20F_0D08, 0xF2AF_0D08)
	never(t, 0xF882_D001, 0xF8D2_D001, 0xF802_D003, 0xF802_100D, 0xF852_D003, 0xF852_100D, 0xF8DF_D008, 0xF85F_D008, 0xE8AD_0103, 0xE8BD_2100, 0xE8A9_2103, 0xE8B9_2103, 0xE92D_2100, 0xE8DD_F002, 0xE8D1_F00D)
	// lr is plain, and loads and stores have sp as a base.
	expectWays(t,
		flagged(0xF10E_0E08, num(api.OpAdd, 14, 14, 8)), flagged(0xEB0E_0E0E, reg(api.OpAdd, 14, 14, 14)), flagged(0xEA4F_0E0E, reg(api.OpMov, 14, 0, 14)), flagged(0xEA4F_0E7E, num(api.OpRor, 14, 14, 1)), flagged(0xFA0E_FE0E, reg(api.OpLsl, 14, 14, 14)), keeping(0xFBBE_FEFE, reg(api.OpUdiv, 14, 14, 14)), keeping(0xE8DE_F00E, reg(api.OpTbb, 0, 14, 14)), keeping(0xFB0E_FE0E, reg(api.OpMul, 14, 14, 14)),
		keeping(0xF20E_0E01, num(api.OpAdd, 14, 14, 1)), keeping(0xF240_0E01, num(api.OpMovw, 14, 0, 1)), keeping(0xF8DF_E001, num(api.OpLit, 14, 0, 1)), keeping(0xF2AF_0E01, num(api.OpAdr, 14, 0, -1)), anywhere(0xF8DE_E001, num(api.OpLdr, 14, 14, 1)), anywhere(0xF8DD_E001, num(api.OpLdr, 14, 13, 1)), anywhere(0xF85D_E00E, reg(api.OpLdr, 14, 13, 14)), anywhere(0xF80E_E00E, reg(api.OpStrb, 14, 14, 14)), anywhere(0xF8AD_0000, num(api.OpStrh, 0, 13, 0)), anywhere(0xF83D_0000, reg(api.OpLdrh, 0, 13, 0)),
	)
}

// pieces is a number of twelve bits as it stands.
func pieces(x int) int { return x>>11<<26 + x>>8%8<<12 + x%256 }

// No two Valid numbers of twelve bits tell one word, so that the one that Find tells is the only one.
func TestDecodeOfNumbersOfTwelveBits(t *testing.T) {
	seen := map[uint32]int{}
	for x := range 4096 {
		w, word := pieces(x), expand.Expand(x)
		if !expand.Valid(x) {
			never(t, 0xF04F_0100+w, 0xF06F_0100+w, 0xF112_0100+w, 0xF1A2_0100+w, 0xF1C2_0100+w, 0xF012_0F00+w, 0xF1B2_0F00+w)
			continue
		}
		if other, ok := seen[word]; ok {
			t.Errorf("%#x and %#x tell one word", other, x)
		}
		seen[word] = x
		expectWays(t,
			flagged(0xF04F_0100+w, num(api.OpMov, 1, 0, int(word))), flagged(0xF06F_0100+w, num(api.OpMvn, 1, 0, int(word))), flagged(0xF102_0100+w, num(api.OpAdd, 1, 2, int(word))), flagged(0xF1C2_0100+w, num(api.OpRsb, 1, 2, int(word))),
			keeping(0xF012_0F00+w, num(api.OpTst, 0, 2, int(word))), keeping(0xF1B2_0F00+w, num(api.OpCmp, 0, 2, int(word))),
		)
	}
}

func TestDecodeOfNumbersThatExpand(t *testing.T) {
	expectWays(t,
		flagged(0xF04F_0100, num(api.OpMov, 1, 0, 0)), flagged(0xF04F_01FF, num(api.OpMov, 1, 0, 255)), flagged(0xF04F_1101, num(api.OpMov, 1, 0, 0x10001)), flagged(0xF04F_11FF, num(api.OpMov, 1, 0, 0xFF00FF)), flagged(0xF04F_2101, num(api.OpMov, 1, 0, 0x1000100)), flagged(0xF04F_21FF, num(api.OpMov, 1, 0, 0xFF00FF00)), flagged(0xF04F_3101, num(api.OpMov, 1, 0, 0x1010101)), flagged(0xF04F_31FF, num(api.OpMov, 1, 0, 0xFFFFFFFF)),
		flagged(0xF04F_4100, num(api.OpMov, 1, 0, 0x80000000)), flagged(0xF04F_417F, num(api.OpMov, 1, 0, 0xFF000000)), flagged(0xF04F_4180, num(api.OpMov, 1, 0, 0x40000000)), flagged(0xF44F_0100, num(api.OpMov, 1, 0, 0x800000)), flagged(0xF44F_4100, num(api.OpMov, 1, 0, 0x8000)), flagged(0xF44F_7180, num(api.OpMov, 1, 0, 0x100)), flagged(0xF44F_71FF, num(api.OpMov, 1, 0, 0x1FE)),
	)
	never(t, 0xF04F_1100, 0xF04F_2100, 0xF04F_3100, 0xF102_1300, 0xF102_2300, 0xF102_3300, 0xF1B2_1F00, 0xF1B2_2F00, 0xF1B2_3F00, 0xF06F_1100, 0xF05F_1100)
}

// The second rows of Add and of Sub have all numbers, those that the first ones have, too.
func TestDecodeOfTheSecondRowsOfAddAndSub(t *testing.T) {
	expectWays(t,
		keeping(0xF202_0101, num(api.OpAdd, 1, 2, 1)), keeping(0xF202_0100, num(api.OpAdd, 1, 2, 0)), keeping(0xF202_01FF, num(api.OpAdd, 1, 2, 255)), keeping(0xF602_7100, num(api.OpAdd, 1, 2, 0xF00)), keeping(0xF202_1100, num(api.OpAdd, 1, 2, 256)), keeping(0xF609_73FF, num(api.OpAdd, 3, 9, 4095)),
		keeping(0xF2A2_0101, num(api.OpSub, 1, 2, 1)), keeping(0xF2A2_0100, num(api.OpSub, 1, 2, 0)), keeping(0xF2A2_01FF, num(api.OpSub, 1, 2, 255)), keeping(0xF6A2_7100, num(api.OpSub, 1, 2, 0xF00)), keeping(0xF2A2_1100, num(api.OpSub, 1, 2, 256)), keeping(0xF6A9_73FF, num(api.OpSub, 3, 9, 4095)),
	)
	for x := range 4096 {
		expectWays(t, keeping(0xF202_0100+pieces(x), num(api.OpAdd, 1, 2, x)), keeping(0xF2A2_0100+pieces(x), num(api.OpSub, 1, 2, x)))
	}
	// No other operation has a second row.
	for number := range 16 {
		if number != 0 && number != 5 && number != 2 && number != 6 {
			never(t, 0xF202_0101+0x20_0000*number)
		}
		never(t, 0xF212_0101+0x20_0000*number, 0xF212_0F01+0x20_0000*number)
	}
}

func TestDecodeOfShiftsByNumbers(t *testing.T) {
	for op, at := range map[int]int{api.OpLsl: 0xEA4F_0000, api.OpLsr: 0xEA4F_0010, api.OpAsr: 0xEA4F_0020, api.OpRor: 0xEA4F_0030} {
		for x := 1; x < 32; x++ {
			expectWays(t, flagged(at+x/4*0x1000+x%4*0x40+0xA09, num(op, 10, 9, x)))
		}
	}
	// By 0 stands a copy, or a shift by 32, or nothing.
	expectWays(t, flagged(0xEA4F_0A09, reg(api.OpMov, 10, 0, 9)), flagged(0xEA4F_0A19, num(api.OpLsr, 10, 9, 32)), flagged(0xEA4F_0A29, num(api.OpAsr, 10, 9, 32)), flagged(0xEA4F_0112, num(api.OpLsr, 1, 2, 32)))
	never(t, 0xEA4F_0030, 0xEA5F_0030, 0xEA4F_0A39, 0xEA4F_8102, 0xEA4F_8112, 0xEA4F_91C2)
}

func TestDecodeOfLoadsAndStores(t *testing.T) {
	for op, at := range map[int]int{api.OpStrb: 0xF880_0000, api.OpLdrb: 0xF890_0000, api.OpStrh: 0xF8A0_0000, api.OpLdrh: 0xF8B0_0000, api.OpStr: 0xF8C0_0000, api.OpLdr: 0xF8D0_0000} {
		byReg := at - 0x80_0000
		expectWays(t,
			anywhere(at+0x9_A000, num(op, 10, 9, 0)), anywhere(at+0x9_A001, num(op, 10, 9, 1)), anywhere(at+0x9_A800, num(op, 10, 9, 2048)), anywhere(at+0x9_AFFF, num(op, 10, 9, 4095)), anywhere(at+0xD_A000, num(op, 10, 13, 0)), anywhere(at+0xD_AFFF, num(op, 10, 13, 4095)),
			anywhere(byReg+0x9_A00C, reg(op, 10, 9, 12)), anywhere(byReg+0xD_A00C, reg(op, 10, 13, 12)), anywhere(byReg, reg(op, 0, 0, 0)),
		)
		for bit := 0x10; bit < 0x1000; bit *= 2 {
			never(t, byReg+0x9_A00C+bit, byReg+0xD_A000+bit)
		}
	}
	// The sizes that there are not.
	never(t, 0xF8E2_1345, 0xF8F2_1345, 0xF862_1003, 0xF872_1003, 0xF982_1345, 0xF992_1345, 0xF912_1003)
}

func TestDecodeOfMovwAndMovt(t *testing.T) {
	for op, at := range map[int]int{api.OpMovw: 0xF240_0000, api.OpMovt: 0xF2C0_0000} {
		expectWays(t, keeping(at+0x0C00, num(op, 12, 0, 0)), keeping(at+0x40F_7CFF, num(op, 12, 0, 65535)))
		for n, at2 := range []int{0, 1, 2, 3, 4, 5, 6, 7, 12, 13, 14, 26, 16, 17, 18, 19} {
			expectWays(t, keeping(at+1<<at2, num(op, 0, 0, 1<<n)))
		}
	}
}

func TestDecodeOfLiteralsAndAddresses(t *testing.T) {
	expectWays(t,
		keeping(0xF8DF_1000, num(api.OpLit, 1, 0, 0)), keeping(0xF8DF_1001, num(api.OpLit, 1, 0, 1)), keeping(0xF8DF_1FFF, num(api.OpLit, 1, 0, 4095)), keeping(0xF85F_1001, num(api.OpLit, 1, 0, -1)), keeping(0xF85F_1FFF, num(api.OpLit, 1, 0, -4095)),
		keeping(0xF20F_0100, num(api.OpAdr, 1, 0, 0)), keeping(0xF20F_0101, num(api.OpAdr, 1, 0, 1)), keeping(0xF60F_71FF, num(api.OpAdr, 1, 0, 4095)), keeping(0xF2AF_0101, num(api.OpAdr, 1, 0, -1)), keeping(0xF6AF_71FF, num(api.OpAdr, 1, 0, -4095)),
	)
	for r := range 16 {
		never(t, 0xF85F_0000+r<<12, 0xF2AF_0000+r<<8)
	}
	for x := 1; x < 4096; x++ {
		expectWays(t, keeping(0xF8DF_3000+x, num(api.OpLit, 3, 0, x)), keeping(0xF85F_3000+x, num(api.OpLit, 3, 0, -x)), keeping(0xF20F_0300+pieces(x), num(api.OpAdr, 3, 0, x)), keeping(0xF2AF_0300+pieces(x), num(api.OpAdr, 3, 0, -x)))
	}
}

func TestDecodeOfLists(t *testing.T) {
	for op, at := range map[int]int{api.OpStm: 0xE8A0_0000, api.OpLdm: 0xE8B0_0000} {
		expectWays(t, anywhere(at+0x9_0003, many(op, 9, 3)), anywhere(at+0x9_4001, many(op, 9, 0x4001)), anywhere(at+0x9_5000, many(op, 9, 0x5000)), anywhere(at+0x9_5DFF, many(op, 9, 0x5DFF)), anywhere(at+0xE_1FFF, many(op, 14, 0x1FFF)), anywhere(at+6, many(op, 0, 6)))
		never(t, at+0x9_0000, at+0x9_0001, at+0x9_4000, at+0x9_8001, at+0x9_C001, at+0x9_2001, at+0x9_0201, at+0x9_0203, at+0xF_0003, at+0xE_4001)
	}
	expectWays(t,
		keeping(0xE92D_0003, many(api.OpPush, 0, 3)), keeping(0xE92D_4001, many(api.OpPush, 0, 0x4001)), keeping(0xE92D_5FFF, many(api.OpPush, 0, 0x5FFF)),
		keeping(0xE8BD_0003, many(api.OpPop, 0, 3)), keeping(0xE8BD_4001, many(api.OpPop, 0, 0x4001)), keeping(0xE8BD_8001, many(api.OpPop, 0, 0x8001)), keeping(0xE8BD_5FFF, many(api.OpPop, 0, 0x5FFF)), keeping(0xE8BD_9FFF, many(api.OpPop, 0, 0x9FFF)),
	)
	never(t, 0xE92D_0000, 0xE92D_8001, 0xE92D_C001, 0xE92D_2001, 0xE8BD_0000, 0xE8BD_C000, 0xE8BD_C001, 0xE8BD_2001, 0xE8BD_A001)
	for r := range 16 {
		never(t, 0xE92D_0000+1<<r, 0xE8BD_0000+1<<r)
	}
}

func TestDecodeOfBranches(t *testing.T) {
	for c := api.EQ; c < api.AL; c++ {
		at := 0xF000_8000 + c<<22
		expectWays(t,
			outside(at, onCond(api.OpB, c, 0)), outside(at+1, onCond(api.OpB, c, 2)), outside(at+0x7FF, onCond(api.OpB, c, 4094)), outside(at+0x1_0000, onCond(api.OpB, c, 4096)), outside(at+0x3F_0000, onCond(api.OpB, c, 0x3F000)), outside(at+0x2000, onCond(api.OpB, c, 1<<18)), outside(at+0x800, onCond(api.OpB, c, 1<<19)),
			outside(at+0x3F_2FFF, onCond(api.OpB, c, 1<<20-2)), outside(at+0x400_0000, onCond(api.OpB, c, -1<<20)), outside(at+0x43F_2FFF, onCond(api.OpB, c, -2)), outside(at+0x43F_0FFF, onCond(api.OpB, c, -2-1<<18)), outside(at+0x43F_27FF, onCond(api.OpB, c, -2-1<<19)),
		)
	}
	// al has no such branch, nor is there one of no condition.
	never(t, 0xF380_8000, 0xF3BF_AFFF, 0xF7BF_AFFF, 0xF780_8000, 0xF3C0_8000, 0xF3FF_AFFF, 0xF7FF_AFFF, 0xF7C0_8000)
	for bits, x := range map[int]int{0x2800: 0, 0x2801: 2, 0x2FFF: 4094, 0x1_2800: 4096, 0x3FF_2800: 0x3FF000, 0x2000: 1 << 22, 0x0800: 1 << 23, 0x0000: 3 << 22, 0x3FF_07FF: 1<<24 - 2, 0x400_0000: -1 << 24, 0x7FF_2FFF: -2, 0x7FF_2FFE: -4, 0x7FF_27FF: -2 - 1<<22, 0x7FF_0FFF: -2 - 1<<23} {
		expectWays(t, anywhere(0xF000_9000+bits, onCond(api.OpB, api.AL, x)), anywhere(0xF000_D000+bits, num(api.OpBl, 0, 0, x)))
	}
	expectWays(t, anywhere(0xF001_B800, onCond(api.OpB, api.AL, 4096)))
	never(t, 0xF000_C800, 0xF000_C000, 0xF7FF_EFFE, 0xF000_E800)
}

func TestDecodeOfNoInstruction(t *testing.T) {
	never(t, 0xFFFF_FFFF, 0xF04F_1000, 0xEA4F_0030, 0xEA62_0103, 0xF062_0105, 0xF85F_1000, 0xF2AF_0100, 0xE8D1_F012, 0xF832_1013, 0xFB02_F113, 0xE92D_4000, 0xE8BD_C000, 0xF3AF_8001, 0xF000_C800, 0xEA4F_8102, 0xF102_0D01)
	// Operations without a number, and numbers without an operation.
	for _, number := range []int{3, 5, 6, 7, 9, 12, 15} {
		never(t, 0xF002_0105+0x20_0000*number, 0xF012_0105+0x20_0000*number, 0xEA02_0103+0x20_0000*number, 0xEA12_0103+0x20_0000*number)
	}
	// Registers that are shifted on the way, and shifts of no type.
	never(t, 0xEA02_0143, 0xEA02_1103, 0xEA02_0113, 0xEA02_0183, 0xEA02_4103, 0xEA6F_0143, 0xEA12_0F42, 0xFA82_F103, 0xFAE2_F103, 0xFA02_F183, 0xFA02_F113, 0xFA02_E103, 0xFA02_0103)
	// Products that are added to, and quotients of other shapes.
	never(t, 0xFB02_4103, 0xFB02_0103, 0xFB02_F113, 0xFB12_F103, 0xFB92_F103, 0xFB92_F1E3, 0xFB92_E1F3, 0xFBB2_F103, 0xFBA2_F1F3, 0xFBD2_F1F3)
	// Where the second halfword's bit 15 is set, all of these are branches.
	expectWays(t, outside(0xF04F_8101, onCond(api.OpB, api.NE, 0xF202)), outside(0xF202_8101, onCond(api.OpB, api.HI, 0x2202)), outside(0xF2AF_8101, onCond(api.OpB, api.GE, 0x2F202)))
	never(t, 0xF382_0101, 0xF392_0101, 0xF3AF_0000, 0xF3C2_0101, 0xFB02_7103)
	// Lists that go down, or leave the base as it is.
	never(t, 0xE889_0103, 0xE899_0103, 0xE909_0103, 0xE919_0103, 0xE929_0103, 0xE939_0103, 0xE8AD_0103, 0xE93D_0103)
	never(t, 0xF3AF_8002, 0xF3AF_8100, 0xF3AF_8010, 0xF3AF_8800, 0xF3AF_A000, 0xF3AE_8000, 0xF3BF_8000, 0xF3BF_8F5F, 0xF7AF_8000, 0xE8D1_F022, 0xE8D1_E002, 0xE8D1_F102, 0xE8C1_F002, 0xEA00_8000, 0xEF00_0000, 0xFE00_0000)
}

// shape is a row's instructions of one operation, bit by bit: 0 and 1 are told; the bits of a field have a letter, and stand in their order.
type shape struct {
	known api.Ins
	bits  string
}

// shapes are all of chapter 8's.
func shapes() []shape {
	l := []shape{
		{num(api.OpAdd, 0, 0, 0), "11110i100000nnnn0iiiddddiiiiiiii"}, {num(api.OpSub, 0, 0, 0), "11110i101010nnnn0iiiddddiiiiiiii"},
		{num(api.OpLsl, 0, 0, 0), "11101010010s11110zzzddddzz00nnnn"}, {num(api.OpLsr, 0, 0, 0), "11101010010s11110zzzddddzz01nnnn"}, {num(api.OpAsr, 0, 0, 0), "11101010010s11110zzzddddzz10nnnn"}, {num(api.OpRor, 0, 0, 0), "11101010010s11110zzzddddzz11nnnn"},
		{reg(api.OpLsl, 0, 0, 0), "11111010000snnnn1111dddd0000mmmm"}, {reg(api.OpLsr, 0, 0, 0), "11111010001snnnn1111dddd0000mmmm"}, {reg(api.OpAsr, 0, 0, 0), "11111010010snnnn1111dddd0000mmmm"}, {reg(api.OpRor, 0, 0, 0), "11111010011snnnn1111dddd0000mmmm"},
		{reg(api.OpMul, 0, 0, 0), "111110110000nnnn1111dddd0000mmmm"}, {reg(api.OpSdiv, 0, 0, 0), "111110111001nnnn1111dddd1111mmmm"}, {reg(api.OpUdiv, 0, 0, 0), "111110111011nnnn1111dddd1111mmmm"},
		{num(api.OpMovw, 0, 0, 0), "11110i100100hhhh0iiiddddiiiiiiii"}, {num(api.OpMovt, 0, 0, 0), "11110i101100hhhh0iiiddddiiiiiiii"},
		{many(api.OpStm, 0, 0), "111010001010nnnnllllllllllllllll"}, {many(api.OpLdm, 0, 0), "111010001011nnnnllllllllllllllll"}, {many(api.OpPush, 0, 0), "1110100100101101llllllllllllllll"}, {many(api.OpPop, 0, 0), "1110100010111101llllllllllllllll"},
		{onCond(api.OpB, 0, 0), "11110tccccpppppp10u0vqqqqqqqqqqq"}, {onCond(api.OpB, api.AL, 0), "11110tpppppppppp10u1vqqqqqqqqqqq"}, {num(api.OpBl, 0, 0, 0), "11110tpppppppppp11u1vqqqqqqqqqqq"},
		{num(api.OpLit, 0, 0, 0), "1111100011011111ddddiiiiiiiiiiii"}, {num(api.OpLit, 0, 0, 0), "1111100001011111ddddjjjjjjjjjjjj"}, {num(api.OpAdr, 0, 0, 0), "11110i10000011110iiiddddiiiiiiii"}, {num(api.OpAdr, 0, 0, 0), "11110j10101011110jjjddddjjjjjjjj"},
		{api.Ins{Op: api.OpNop}, "11110011101011111000000000000000"}, {reg(api.OpTbb, 0, 0, 0), "111010001101nnnn111100000000mmmm"},
	}
	for op, number := range map[int]string{api.OpAnd: "0000", api.OpBic: "0001", api.OpOrr: "0010", api.OpEor: "0100", api.OpAdd: "1000", api.OpAdc: "1010", api.OpSbc: "1011", api.OpSub: "1101", api.OpRsb: "1110"} {
		l = append(l, shape{num(op, 0, 0, 0), "11110x0" + number + "snnnn0xxxddddxxxxxxxx"}, shape{reg(op, 0, 0, 0), "1110101" + number + "snnnn0000dddd0000mmmm"})
	}
	for op, number := range map[int]string{api.OpMov: "0010", api.OpMvn: "0011"} {
		l = append(l, shape{num(op, 0, 0, 0), "11110x0" + number + "s11110xxxddddxxxxxxxx"}, shape{reg(op, 0, 0, 0), "1110101" + number + "s11110000dddd0000mmmm"})
	}
	for op, number := range map[int]string{api.OpTst: "0000", api.OpTeq: "0100", api.OpCmn: "1000", api.OpCmp: "1101"} {
		l = append(l, shape{num(op, 0, 0, 0), "11110x0" + number + "1nnnn0xxx1111xxxxxxxx"}, shape{reg(op, 0, 0, 0), "1110101" + number + "1nnnn00001111" + "0000mmmm"})
	}
	for op, number := range map[int]string{api.OpStrb: "000", api.OpLdrb: "001", api.OpStrh: "010", api.OpLdrh: "011", api.OpStr: "100", api.OpLdr: "101"} {
		l = append(l, shape{num(op, 0, 0, 0), "111110001" + number + "nnnnddddiiiiiiiiiiii"}, shape{reg(op, 0, 0, 0), "111110000" + number + "nnnndddd00000000mmmm"})
	}
	return l
}

// told is the bits that a shape tells, and which bits they are.
func (s shape) told() (word, which int) {
	for n, letter := range s.bits {
		at := 1 << (31 - n)
		if letter == '0' || letter == '1' {
			which += at
		}
		if letter == '1' {
			word += at
		}
	}
	return word, which
}

// field is the bits of the letter in w.
func (s shape) field(w int, letter rune) int {
	x := 0
	for n, other := range s.bits {
		if other == letter {
			x = 2*x + w>>(31-n)&1
		}
	}
	return x
}

func (s shape) has(letter string) bool { return strings.Contains(s.bits, letter) }

// offset is that of a branch: of its bits above 17, or above 21, each has a letter.
func (s shape) offset(w int) int {
	t, u, v, low := s.field(w, 't'), s.field(w, 'u'), s.field(w, 'v'), s.field(w, 'p')<<12+s.field(w, 'q')<<1
	if s.has("c") {
		return low + u<<18 + v<<19 - t<<20
	}
	return low + (1^v^t)<<22 + (1^u^t)<<23 - t<<24
}

// read is the instruction of the shape that w is, if it is one of it.
func (s shape) read(w int, it bool) api.Ins {
	i := s.known
	i.S, i.Rd, i.Rn, i.Rm = s.field(w, 's') == 1, s.field(w, 'd'), s.field(w, 'n'), s.field(w, 'm')
	i.List, i.Imm = s.field(w, 'l'), s.field(w, 'h')<<12+s.field(w, 'i')-s.field(w, 'j')
	switch {
	case s.has("x"):
		x := s.field(w, 'x')
		if !expand.Valid(x) {
			return no
		}
		i.Imm = int(expand.Expand(x))
	case s.has("z"):
		i.Imm = s.field(w, 'z')
		if i.Imm == 0 && (i.Op == api.OpLsr || i.Op == api.OpAsr) {
			i.Imm = 32
		}
	case s.has("j") && i.Imm == 0, i.Op == api.OpMov && (i.Rd == api.SP || i.Rm == api.SP):
		return no
	case (i.Op == api.OpPush || i.Op == api.OpPop) && i.List&(i.List-1) == 0:
		return no
	case s.has("t"):
		i.Imm = s.offset(w)
	}
	if s.has("c") {
		i.Cond = s.field(w, 'c')
		if i.Cond == api.AL || it {
			return no
		}
	}
	if isa.Check(i) != api.OK {
		return no
	}
	return i
}

// reader is the shapes, each with what it tells.
type reader []struct {
	s           shape
	word, which int
}

func newReader() reader {
	l := make(reader, 0)
	for _, s := range shapes() {
		word, which := s.told()
		l = append(l, struct {
			s           shape
			word, which int
		}{s, word, which})
	}
	return l
}

// read is the instruction that w is: there is at most one.
func (l reader) read(t *testing.T, w int, it bool) api.Ins {
	found := no
	for _, x := range l {
		if w&x.which != x.word {
			continue
		}
		i := x.s.read(w, it)
		if i != no && found != no {
			t.Fatalf("%#08x is %+v, and %+v", w, found, i)
		}
		if i != no {
			found = i
		}
	}
	return found
}

// hold holds Decode against the shapes; what it reads has halfwords, of which it is read (promise 11.2): its own, but where Add or Sub has two rows.
func (l reader) hold(t *testing.T, w int, it bool) {
	t.Helper()
	want := l.read(t, w, it)
	expect(t, w, it, want)
	if want == no {
		return
	}
	a, b, ok := wide.Encode(want, it)
	if second := w>>25&^2 == 0x79 && (want.Op == api.OpAdd || want.Op == api.OpSub); !ok || !second && a<<16+b != w {
		t.Errorf("wide.Encode(%+v, %v): %#04x, %#04x, %v, not %#08x", want, it, a, b, ok, w)
	}
	expectOf(t, a, b, it, want)
}

// of each shape is one with some numbers in its fields.
func (s shape) samples() []int {
	word, which := s.told()
	l := []int{}
	for _, fill := range []int{0x0000_0000, 0xFFFF_FFFF, 0x0442_1103, 0x0E35_4C67, 0x0109_2B01, 0x0003_7E88, 0x05C6_8006} {
		l = append(l, word|fill&^which)
	}
	return l
}

func TestDecodeOfEachBitTurned(t *testing.T) {
	l := newReader()
	for _, x := range l {
		for _, w := range x.s.samples() {
			for _, it := range []bool{false, true} {
				l.hold(t, w, it)
				for bit := range 32 {
					l.hold(t, w^1<<bit, it)
					for other := range bit {
						l.hold(t, w^1<<bit^1<<other, it)
					}
				}
			}
		}
	}
}

func TestDecodeOfEachFirstHalfword(t *testing.T) {
	l := newReader()
	for a := 0xE800; a <= 0xFFFF; a++ {
		for _, b := range []int{0x0101, 0x11AB, 0x0F02, 0x0112, 0xF103, 0xF1F3, 0x1003, 0x1000, 0x4100, 0x8100, 0x0103, 0x8000, 0xAFFE, 0xB800, 0xF800, 0xC800, 0xF002, 0x0000, 0xFFFF} {
			l.hold(t, a<<16+b, false)
			l.hold(t, a<<16+b, true)
		}
	}
}

func TestDecodeOfSecondHalfwords(t *testing.T) {
	l := newReader()
	for _, a := range []int{0xF002, 0xF04F, 0xF46F, 0xF1B2, 0xF202, 0xF6A2, 0xEA02, 0xEA4F, 0xEA5F, 0xEA6F, 0xEA92, 0xFA42, 0xFB02, 0xFB92, 0xFBB2, 0xF64A, 0xF2C1, 0xF882, 0xF8DD, 0xF832, 0xF85D, 0xE8A9, 0xE8B1, 0xE92D, 0xE8BD, 0xF47F, 0xF001, 0xF7FF, 0xF380, 0xF8DF, 0xF85F, 0xF60F, 0xF2AF, 0xF3AF, 0xE8D1} {
		// Steps of 3 come to all bits, and to each of them in blocks and out of them.
		for b := 0; b < 1<<16; b += 3 {
			l.hold(t, a<<16+b, b%2 == 0)
		}
	}
}

func TestDecodeOfAFirstHalfwordThatBeginsNone(t *testing.T) {
	for a := range 0xE800 {
		for _, b := range []int{0x0001, 0xF002, 0x8000, 0xF800} {
			never(t, a<<16+b)
		}
	}
	never(t, 0x2001_0001, 0xBF00_8000, 0xE7FF_B800, 0xE04F_0001, 0x704F_0001, 0xD04F_0001, 0xB04F_0001, 0x0000_0000)
}

// Promise 11.2: chapter 8's halfwords of an instruction are read as that instruction.
func TestDecodeOfWhatWideGives(t *testing.T) {
	list := []api.Ins{
		num(api.OpMov, 0, 0, 1), num(api.OpMov, 1, 0, 0xAB00AB), num(api.OpAdd, 1, 2, 1), num(api.OpAdd, 1, 2, 255), num(api.OpAdd, 1, 2, 256), num(api.OpAdd, 1, 2, 257), num(api.OpSub, 1, 2, 4080), num(api.OpSub, 1, 2, 4095), num(api.OpAdd, 1, 2, 0xFF00FF00), num(api.OpCmp, 0, 3, 0x80000000), reg(api.OpMov, 1, 0, 2), reg(api.OpTeq, 0, 1, 2), reg(api.OpRsb, 1, 2, 3),
		num(api.OpLsl, 1, 2, 31), num(api.OpLsr, 1, 2, 32), num(api.OpAsr, 1, 2, 32), num(api.OpRor, 1, 2, 1), reg(api.OpRor, 1, 2, 3), reg(api.OpMul, 1, 2, 3), reg(api.OpSdiv, 1, 2, 3), reg(api.OpUdiv, 1, 2, 3), num(api.OpMovw, 1, 0, 65535), num(api.OpMovt, 1, 0, 0x8421),
		num(api.OpLdrb, 1, 13, 4095), reg(api.OpStrh, 1, 13, 2), many(api.OpStm, 1, 0x4101), many(api.OpLdm, 14, 3), many(api.OpPush, 0, 0x5FFF), many(api.OpPop, 0, 0x9FFF), onCond(api.OpB, api.AL, -1<<24), onCond(api.OpB, api.AL, 1<<24-2), num(api.OpBl, 0, 0, -1<<23), num(api.OpLit, 1, 0, 0), num(api.OpLit, 1, 0, -1), num(api.OpAdr, 1, 0, 0), num(api.OpAdr, 1, 0, -1), {Op: api.OpNop}, reg(api.OpTbb, 0, 1, 2),
	}
	for _, i := range list {
		for _, it := range []bool{false, true} {
			expectWideRead(t, i, it)
			if isa.Sets(i.Op) && i.Imm != 257 && i.Imm != 4095 {
				expectWideRead(t, setting(i), it)
			}
		}
	}
	for c := api.EQ; c < api.AL; c++ {
		for _, x := range []int{-1 << 20, -1<<20 + 2, -1 << 19, -1 << 18, -4096, -2, 0, 2, 4094, 4096, 1 << 18, 1 << 19, 1<<20 - 2} {
			expectWideRead(t, onCond(api.OpB, c, x), false)
		}
	}
}

func expectWideRead(t *testing.T, i api.Ins, it bool) {
	t.Helper()
	a, b, ok := wide.Encode(i, it)
	if !ok {
		t.Errorf("wide.Encode(%+v, %v): none", i, it)
	}
	expectOf(t, a, b, it, i)
}

// beyond are numbers whose lowest 16 bits are those of h.
func beyond(h int) []int {
	return []int{h + 1<<16, h + 0xFFFF<<16, h + 1<<31, h + 1<<32, h + 1<<62, h - 1<<16, h - 1<<31, h - 1<<32, h - 1<<62, h + math.MinInt}
}

func TestDecodeTakesTheLowest16Bits(t *testing.T) {
	for _, want := range []ways{
		anywhere(0xF04F_0001, num(api.OpMov, 0, 0, 1)), anywhere(0xF202_0101, num(api.OpAdd, 1, 2, 1)), anywhere(0xEA22_0103, reg(api.OpBic, 1, 2, 3)), outside(0xF47F_AFFE, onCond(api.OpB, api.NE, -4)), anywhere(0xF000_F800, num(api.OpBl, 0, 0, 0)), anywhere(0xF7FF_BFFE, onCond(api.OpB, api.AL, -4)), anywhere(0xE8BD_8100, many(api.OpPop, 0, 0x8100)), anywhere(0xF3AF_8000, api.Ins{Op: api.OpNop}), anywhere(0xF85F_1008, num(api.OpLit, 1, 0, -8)),
		outside(0xF85F_1000, no), outside(0xF3AF_8001, no), outside(0xFFFF_FFFF, no), outside(0x2001_0001, no), outside(0x0000_0000, no), outside(0x704F_0001, no),
	} {
		a, b := want.w>>16, want.w&0xFFFF
		for _, x := range append(beyond(a), a) {
			for _, y := range append(beyond(b), b) {
				expectOf(t, x, y, false, want.i)
				expectOf(t, x, y, true, want.in)
			}
		}
	}
	expectOf(t, -0x0FB1, math.MinInt+1, false, num(api.OpMov, 0, 0, 1))
	expectOf(t, -1, -1, false, no)
	expectOf(t, math.MaxInt, math.MinInt, false, no)
}
