package wide

import (
	"math"
	"math/bits"
	"slices"
	"testing"

	"cartouche/api"
	"cartouche/expand"
	"cartouche/isa"
)

// Both halfwords are told as one number here, the first of them above; no is told where an instruction has none.
const no = -1

// sBit is S in both halfwords.
const sBit = 0x0010_0000

func reg(op, d, n, m int) api.Ins {
	return api.Ins{Op: op, Rd: d, Rn: n, Rm: m, Mode: api.ModeReg}
}

func num(op, d, n, x int) api.Ins {
	return api.Ins{Op: op, Rd: d, Rn: n, Imm: x, Mode: api.ModeImm}
}

func many(op, n, list int) api.Ins {
	return api.Ins{Op: op, Rn: n, List: list}
}

func onCond(op, c, x int) api.Ins {
	return api.Ins{Op: op, Cond: c, Imm: x, Mode: api.ModeImm}
}

// setting is i, telling that it sets flags.
func setting(i api.Ins) api.Ins {
	i.S = true
	return i
}

// expect holds Encode and Can against both halfwords, or none.
func expect(t *testing.T, i api.Ins, it bool, want int) {
	t.Helper()
	wantA, wantB, wantOK := want>>16, want&0xFFFF, want != no
	if !wantOK {
		wantA, wantB = 0, 0
	}
	if a, b, ok := Encode(i, it); a != wantA || b != wantB || ok != wantOK {
		t.Errorf("Encode(%+v, %v): %#04x, %#04x, %v, not %#04x, %#04x, %v", i, it, a, b, ok, wantA, wantB, wantOK)
	}
	if got := Can(i, it); got != wantOK {
		t.Errorf("Can(%+v, %v): %v, not %v", i, it, got, wantOK)
	}
}

// ways is an instruction, and its halfwords when it tells that it sets no flags (out of blocks and in them), and when it tells that it does (likewise).
type ways struct {
	i                        api.Ins
	out, in, outSets, inSets int
}

func expectWays(t *testing.T, l ...ways) {
	t.Helper()
	for _, x := range l {
		expect(t, x.i, false, x.out)
		expect(t, x.i, true, x.in)
		expect(t, setting(x.i), false, x.outSets)
		expect(t, setting(x.i), true, x.inSets)
	}
}

// flagged is what may tell S, in blocks and out of them.
func flagged(i api.Ins, w int) ways { return ways{i, w, w, w + sBit, w + sBit} }

// keeping is likewise, but has no halfwords where S is told.
func keeping(i api.Ins, w int) ways { return ways{i, w, w, no, no} }

// outside is likewise, and has none within a block.
func outside(i api.Ins, w int) ways { return ways{i, w, no, no, no} }

// never is what has no halfwords in any way.
func never(i api.Ins) ways { return ways{i, no, no, no, no} }

func TestEncodeOfEachRow(t *testing.T) {
	expectWays(t,
		flagged(num(api.OpMov, 0, 0, 1), 0xF04F_0001), flagged(num(api.OpAnd, 1, 2, 0xAB00AB), 0xF002_11AB), flagged(num(api.OpAdd, 1, 2, 0xAB00AB), 0xF102_11AB),
		keeping(num(api.OpAdd, 1, 2, 257), 0xF202_1101), keeping(num(api.OpSub, 1, 2, 257), 0xF2A2_1101),
		flagged(reg(api.OpBic, 1, 2, 3), 0xEA22_0103), flagged(reg(api.OpMov, 1, 0, 3), 0xEA4F_0103),
		flagged(num(api.OpLsl, 1, 2, 7), 0xEA4F_11C2), flagged(num(api.OpLsr, 1, 2, 7), 0xEA4F_11D2), flagged(num(api.OpAsr, 1, 2, 7), 0xEA4F_11E2), flagged(num(api.OpRor, 1, 2, 7), 0xEA4F_11F2),
		flagged(reg(api.OpLsl, 1, 2, 3), 0xFA02_F103), flagged(reg(api.OpLsr, 1, 2, 3), 0xFA22_F103), flagged(reg(api.OpAsr, 1, 2, 3), 0xFA42_F103), flagged(reg(api.OpRor, 1, 2, 3), 0xFA62_F103),
		keeping(reg(api.OpMul, 1, 2, 3), 0xFB02_F103), keeping(reg(api.OpSdiv, 1, 2, 3), 0xFB92_F1F3), keeping(reg(api.OpUdiv, 1, 2, 3), 0xFBB2_F1F3),
		keeping(num(api.OpMovw, 1, 0, 0xABCD), 0xF64A_31CD), keeping(num(api.OpMovt, 1, 0, 0xABCD), 0xF6CA_31CD),
		keeping(num(api.OpStrb, 1, 2, 0x345), 0xF882_1345), keeping(num(api.OpLdrb, 1, 2, 0x345), 0xF892_1345), keeping(num(api.OpStrh, 1, 2, 0x345), 0xF8A2_1345), keeping(num(api.OpLdrh, 1, 2, 0x345), 0xF8B2_1345), keeping(num(api.OpStr, 1, 2, 0x345), 0xF8C2_1345), keeping(num(api.OpLdr, 1, 2, 0x345), 0xF8D2_1345),
		keeping(reg(api.OpStrb, 1, 2, 3), 0xF802_1003), keeping(reg(api.OpLdrb, 1, 2, 3), 0xF812_1003), keeping(reg(api.OpStrh, 1, 2, 3), 0xF822_1003), keeping(reg(api.OpLdrh, 1, 2, 3), 0xF832_1003), keeping(reg(api.OpStr, 1, 2, 3), 0xF842_1003), keeping(reg(api.OpLdr, 1, 2, 3), 0xF852_1003),
		keeping(many(api.OpStm, 9, 0x0103), 0xE8A9_0103), keeping(many(api.OpLdm, 9, 0x0103), 0xE8B9_0103), keeping(many(api.OpPush, 0, 0x4100), 0xE92D_4100), keeping(many(api.OpPop, 0, 0x8100), 0xE8BD_8100),
		outside(onCond(api.OpB, api.NE, -4), 0xF47F_AFFE), keeping(onCond(api.OpB, api.AL, -4), 0xF7FF_BFFE), keeping(num(api.OpBl, 0, 0, -4), 0xF7FF_FFFE), keeping(num(api.OpBl, 0, 0, 0), 0xF000_F800),
		keeping(num(api.OpLit, 1, 0, 8), 0xF8DF_1008), keeping(num(api.OpLit, 1, 0, -8), 0xF85F_1008), keeping(num(api.OpAdr, 1, 0, 0x803), 0xF60F_0103), keeping(num(api.OpAdr, 1, 0, -0x803), 0xF6AF_0103),
		keeping(api.Ins{Op: api.OpNop}, 0xF3AF_8000), keeping(reg(api.OpTbb, 0, 1, 2), 0xE8D1_F002),
	)
}

func TestEncodeOfOperationsWithoutARow(t *testing.T) {
	expectWays(t,
		never(num(api.OpCbz, 0, 1, 2)), never(num(api.OpCbnz, 0, 1, 2)), never(reg(api.OpBx, 0, 0, 14)), never(onCond(api.OpIt, api.NE, 8)), never(onCond(api.OpIt, api.AL, 8)), never(num(api.OpBkpt, 0, 0, 0)), never(num(api.OpBkpt, 0, 0, 1)),
	)
}

// numbers are those of the operations of the rows 'op'.
var numbers = map[int]int{
	api.OpAnd: 0, api.OpBic: 1, api.OpOrr: 2, api.OpEor: 4, api.OpAdd: 8, api.OpAdc: 10, api.OpSbc: 11, api.OpSub: 13, api.OpRsb: 14,
	api.OpMov: 2, api.OpMvn: 3, api.OpTst: 0, api.OpTeq: 4, api.OpCmn: 8, api.OpCmp: 13,
}

func isMove(op int) bool    { return op == api.OpMov || op == api.OpMvn }
func isCompare(op int) bool { return op >= api.OpCmp && op <= api.OpTeq }

// of is i without the register that its operation, one of the rows 'op', has not.
func of(i api.Ins) api.Ins {
	if isMove(i.Op) {
		i.Rn = 0
	}
	if isCompare(i.Op) {
		i.Rd = 0
	}
	return i
}

func TestEncodeOfEachNumberedOperation(t *testing.T) {
	for op, number := range numbers {
		byNum, byReg := of(num(op, 10, 9, 0xFF00FF00)), of(reg(op, 10, 9, 12))
		at := 0x20_0000 * number
		switch {
		case isMove(op):
			expectWays(t, flagged(byNum, 0xF00F_2AFF+at), flagged(byReg, 0xEA0F_0A0C+at))
		case isCompare(op):
			expectWays(t, keeping(byNum, 0xF019_2FFF+at), keeping(byReg, 0xEA19_0F0C+at))
		default:
			expectWays(t, flagged(byNum, 0xF009_2AFF+at), flagged(byReg, 0xEA09_0A0C+at))
		}
	}
	expectWays(t,
		flagged(num(api.OpAnd, 1, 2, 5), 0xF002_0105), flagged(num(api.OpBic, 1, 2, 5), 0xF022_0105), flagged(num(api.OpOrr, 1, 2, 5), 0xF042_0105), flagged(num(api.OpEor, 1, 2, 5), 0xF082_0105), flagged(num(api.OpAdd, 1, 2, 5), 0xF102_0105),
		flagged(num(api.OpAdc, 1, 2, 5), 0xF142_0105), flagged(num(api.OpSbc, 1, 2, 5), 0xF162_0105), flagged(num(api.OpSub, 1, 2, 5), 0xF1A2_0105), flagged(num(api.OpRsb, 1, 2, 5), 0xF1C2_0105),
		flagged(reg(api.OpAnd, 1, 2, 3), 0xEA02_0103), flagged(reg(api.OpBic, 1, 2, 3), 0xEA22_0103), flagged(reg(api.OpOrr, 1, 2, 3), 0xEA42_0103), flagged(reg(api.OpEor, 1, 2, 3), 0xEA82_0103), flagged(reg(api.OpAdd, 1, 2, 3), 0xEB02_0103),
		flagged(reg(api.OpAdc, 1, 2, 3), 0xEB42_0103), flagged(reg(api.OpSbc, 1, 2, 3), 0xEB62_0103), flagged(reg(api.OpSub, 1, 2, 3), 0xEBA2_0103), flagged(reg(api.OpRsb, 1, 2, 3), 0xEBC2_0103),
	)
}

func TestEncodeWhereTheMissingRegisterIs15(t *testing.T) {
	expectWays(t,
		flagged(num(api.OpMov, 3, 0, 5), 0xF04F_0305), flagged(num(api.OpMvn, 3, 0, 5), 0xF06F_0305), flagged(reg(api.OpMov, 3, 0, 5), 0xEA4F_0305), flagged(reg(api.OpMvn, 3, 0, 5), 0xEA6F_0305),
		keeping(num(api.OpTst, 0, 3, 5), 0xF013_0F05), keeping(num(api.OpTeq, 0, 3, 5), 0xF093_0F05), keeping(num(api.OpCmn, 0, 3, 5), 0xF113_0F05), keeping(num(api.OpCmp, 0, 3, 5), 0xF1B3_0F05),
		keeping(reg(api.OpTst, 0, 3, 5), 0xEA13_0F05), keeping(reg(api.OpTeq, 0, 3, 5), 0xEA93_0F05), keeping(reg(api.OpCmn, 0, 3, 5), 0xEB13_0F05), keeping(reg(api.OpCmp, 0, 3, 5), 0xEBB3_0F05),
		// None of them may tell that register.
		never(num(api.OpMov, 3, 15, 5)), never(num(api.OpMvn, 3, 1, 5)), never(reg(api.OpMov, 3, 15, 5)), never(reg(api.OpMvn, 3, 15, 5)),
		never(num(api.OpTst, 15, 3, 5)), never(num(api.OpTeq, 1, 3, 5)), never(reg(api.OpCmn, 15, 3, 5)), never(reg(api.OpCmp, 15, 3, 5)),
	)
}

func TestEncodeOfNumbersThatAreFound(t *testing.T) {
	for _, f := range []struct{ x, x12 int }{
		{0, 0}, {1, 0x0001}, {2, 0x0002}, {4, 0x0004}, {8, 0x0008}, {0x10, 0x0010}, {0x20, 0x0020}, {0x40, 0x0040}, {0x80, 0x0080}, {0xFF, 0x00FF},
		{0x10001, 0x1001}, {0xFF00FF, 0x10FF}, {0x1000100, 0x2001}, {0xFF00FF00, 0x20FF}, {0x1010101, 0x3001}, {0xFFFFFFFF, 0x30FF},
		{0x80000000, 0x4000}, {0xFF000000, 0x407F}, {0x40000000, 0x4080}, {0x800000, 0x400_0000}, {0xFF0000, 0x400_007F}, {0x8000, 0x400_4000}, {0x800, 0x400_6000}, {0x400, 0x400_6080}, {0x100, 0x400_7080}, {0x1FE, 0x400_70FF},
	} {
		expectWays(t,
			flagged(num(api.OpMov, 1, 0, f.x), 0xF04F_0100+f.x12), flagged(num(api.OpMvn, 1, 0, f.x), 0xF06F_0100+f.x12), flagged(num(api.OpAdd, 1, 2, f.x), 0xF102_0100+f.x12), flagged(num(api.OpSub, 1, 2, f.x), 0xF1A2_0100+f.x12),
			flagged(num(api.OpRsb, 1, 2, f.x), 0xF1C2_0100+f.x12), flagged(num(api.OpAnd, 1, 2, f.x), 0xF002_0100+f.x12), keeping(num(api.OpTst, 0, 2, f.x), 0xF012_0F00+f.x12), keeping(num(api.OpCmp, 0, 2, f.x), 0xF1B2_0F00+f.x12),
		)
	}
}

func TestEncodeOfNumbersThatAreNotFound(t *testing.T) {
	for _, x := range []int{0x101, 0x1FF, 0x201, 4094, 4095, 4097, 0x12345678, 0x10001001, 0x80000001, 0xFFFFFFFE, 0xAB00AC, 0xABABABAC, 0xFFFFFF00, 1 << 32, 1<<32 + 1, 1<<40 + 5, -1, -5, -256, math.MaxInt, math.MinInt} {
		for op := range numbers {
			i := of(num(op, 1, 2, x))
			hasSecond := (op == api.OpAdd || op == api.OpSub) && x >= 0 && x <= 4095
			if !hasSecond {
				expectWays(t, never(i))
			}
			expect(t, setting(i), false, no)
			expect(t, setting(i), true, no)
		}
	}
}

func TestEncodeOfAddAndSubOfNumbers(t *testing.T) {
	expectWays(t,
		flagged(num(api.OpAdd, 3, 9, 0), 0xF109_0300), flagged(num(api.OpAdd, 3, 9, 255), 0xF109_03FF), flagged(num(api.OpAdd, 3, 9, 256), 0xF509_7380), flagged(num(api.OpAdd, 3, 9, 4080), 0xF509_637F), flagged(num(api.OpAdd, 3, 9, 4096), 0xF509_5380),
		flagged(num(api.OpSub, 3, 9, 0), 0xF1A9_0300), flagged(num(api.OpSub, 3, 9, 255), 0xF1A9_03FF), flagged(num(api.OpSub, 3, 9, 256), 0xF5A9_7380), flagged(num(api.OpSub, 3, 9, 4080), 0xF5A9_637F), flagged(num(api.OpSub, 3, 9, 4096), 0xF5A9_5380),
		keeping(num(api.OpAdd, 3, 9, 4095), 0xF609_73FF), keeping(num(api.OpAdd, 3, 9, 4094), 0xF609_73FE), keeping(num(api.OpAdd, 14, 14, 257), 0xF20E_1E01),
		keeping(num(api.OpSub, 3, 9, 4095), 0xF6A9_73FF), keeping(num(api.OpSub, 3, 9, 4094), 0xF6A9_73FE), keeping(num(api.OpSub, 14, 14, 257), 0xF2AE_1E01),
		never(num(api.OpAdd, 3, 9, 4097)), never(num(api.OpAdd, 3, 9, 8191)), never(num(api.OpAdd, 3, 9, -1)), never(num(api.OpAdd, 3, 9, -257)), never(num(api.OpAdd, 3, 9, 1<<32)), never(num(api.OpAdd, 3, 9, 1<<32+257)),
		never(num(api.OpSub, 3, 9, 4097)), never(num(api.OpSub, 3, 9, 8191)), never(num(api.OpSub, 3, 9, -1)), never(num(api.OpSub, 3, 9, -257)), never(num(api.OpSub, 3, 9, 1<<32)), never(num(api.OpSub, 3, 9, 1<<32+257)),
		// Of no other operation there is a second row.
		never(num(api.OpRsb, 3, 9, 257)), never(num(api.OpAdc, 3, 9, 257)), never(num(api.OpSbc, 3, 9, 257)), never(num(api.OpCmp, 0, 9, 257)), never(num(api.OpCmn, 0, 9, 257)), never(num(api.OpOrr, 3, 9, 257)), never(num(api.OpMov, 3, 0, 257)),
	)
}

// The two rows of Add and of Sub differ in the first halfword's bit 9: what the first one has is never told by the second.
func TestEncodeOfTheFirstOfTwoRows(t *testing.T) {
	for op, rows := range map[int]struct{ first, second int }{api.OpAdd: {0xF102, 0xF202}, api.OpSub: {0xF1A2, 0xF2A2}} {
		for x := range 4096 {
			want := rows.second
			if _, found := expand.Find(uint32(x)); found {
				want = rows.first
			}
			if a, _, ok := Encode(num(op, 1, 2, x), false); !ok || a&^0x400 != want {
				t.Errorf("Encode of operation %d and %d: %#x, %v, not %#x", op, x, a, ok, want)
			}
		}
	}
}

func TestEncodeOfEachBitOfTwelve(t *testing.T) {
	places := []int{0, 1, 2, 3, 4, 5, 6, 7, 12, 13, 14, 26}
	pieces := func(x int) int {
		word := 0
		for n, at := range places {
			word += x >> n & 1 << at
		}
		return word
	}
	for n := range places {
		bit := 1 << n
		expectWays(t,
			keeping(num(api.OpMovw, 0, 0, bit), 0xF240_0000+pieces(bit)), keeping(num(api.OpMovt, 0, 0, bit), 0xF2C0_0000+pieces(bit)),
			keeping(num(api.OpAdr, 0, 0, bit), 0xF20F_0000+pieces(bit)), keeping(num(api.OpAdr, 0, 0, -bit), 0xF2AF_0000+pieces(bit)),
		)
		// No number of these is found: the bits of each lie too far apart.
		x := 0xAAB ^ bit
		expectWays(t, keeping(num(api.OpAdd, 0, 0, x), 0xF200_0000+pieces(x)), keeping(num(api.OpSub, 0, 0, x), 0xF2A0_0000+pieces(x)))
	}
}

// spPlaces are instructions with sp in a place of a register that must be plain, one such place in each.
func spPlaces() []api.Ins {
	l := []api.Ins{
		num(api.OpMovw, 13, 0, 1), num(api.OpMovt, 13, 0, 1), num(api.OpLit, 13, 0, 8), num(api.OpLit, 13, 0, -8), num(api.OpAdr, 13, 0, 8), num(api.OpAdr, 13, 0, -8), reg(api.OpTbb, 0, 13, 2), reg(api.OpTbb, 0, 1, 13),
		num(api.OpMov, 13, 0, 1), num(api.OpMvn, 13, 0, 1), reg(api.OpMov, 13, 0, 1), reg(api.OpMov, 1, 0, 13), reg(api.OpMov, 13, 0, 13), reg(api.OpMvn, 13, 0, 1), reg(api.OpMvn, 1, 0, 13),
		num(api.OpAdd, 13, 1, 257), num(api.OpAdd, 1, 13, 257), num(api.OpSub, 13, 1, 257), num(api.OpSub, 1, 13, 257), num(api.OpAdd, 13, 13, 8), num(api.OpSub, 13, 13, 8), reg(api.OpAdd, 13, 13, 1),
		many(api.OpStm, 13, 0x0103), many(api.OpLdm, 13, 0x0103), many(api.OpStm, 1, 0x2011), many(api.OpLdm, 1, 0x2011), many(api.OpPush, 0, 0x2011), many(api.OpPop, 0, 0x2011),
	}
	for op := range numbers {
		if isCompare(op) {
			l = append(l, num(op, 0, 13, 1), reg(op, 0, 13, 1), reg(op, 0, 1, 13))
		} else if !isMove(op) {
			l = append(l, num(op, 13, 1, 1), num(op, 1, 13, 1), reg(op, 13, 1, 2), reg(op, 1, 13, 2), reg(op, 1, 2, 13))
		}
	}
	for _, op := range []int{api.OpLsl, api.OpLsr, api.OpAsr, api.OpRor} {
		l = append(l, num(op, 13, 1, 5), num(op, 1, 13, 5), reg(op, 13, 1, 2), reg(op, 1, 13, 2), reg(op, 1, 2, 13))
	}
	for _, op := range []int{api.OpMul, api.OpUdiv, api.OpSdiv} {
		l = append(l, reg(op, 13, 1, 2), reg(op, 1, 13, 2), reg(op, 1, 2, 13))
	}
	for op := api.OpLdr; op <= api.OpStrh; op++ {
		l = append(l, num(op, 13, 1, 4), num(op, 13, 13, 4), reg(op, 13, 1, 2), reg(op, 1, 2, 13), reg(op, 1, 13, 13))
	}
	return l
}

func TestEncodeOfSPWhereARegisterIsPlain(t *testing.T) {
	for _, i := range spPlaces() {
		expectWays(t, never(i))
		// pc is no plain one, either.
		for _, r := range []*int{&i.Rd, &i.Rn, &i.Rm} {
			if *r == api.SP {
				*r = api.PC
			}
		}
		expectWays(t, never(i))
	}
	// lr is plain, and loads and stores have sp as a base.
	expectWays(t,
		flagged(num(api.OpAdd, 14, 14, 8), 0xF10E_0E08), flagged(reg(api.OpAdd, 14, 14, 14), 0xEB0E_0E0E), flagged(reg(api.OpMov, 14, 0, 14), 0xEA4F_0E0E), flagged(num(api.OpRor, 14, 14, 1), 0xEA4F_0E7E), flagged(reg(api.OpLsl, 14, 14, 14), 0xFA0E_FE0E), keeping(reg(api.OpUdiv, 14, 14, 14), 0xFBBE_FEFE), keeping(reg(api.OpTbb, 0, 14, 14), 0xE8DE_F00E),
		keeping(num(api.OpMovw, 14, 0, 1), 0xF240_0E01), keeping(num(api.OpLit, 14, 0, 1), 0xF8DF_E001), keeping(num(api.OpAdr, 14, 0, -1), 0xF2AF_0E01), keeping(num(api.OpLdr, 14, 14, 1), 0xF8DE_E001), keeping(num(api.OpLdr, 14, 13, 1), 0xF8DD_E001), keeping(reg(api.OpLdr, 14, 13, 14), 0xF85D_E00E), keeping(reg(api.OpStrb, 14, 14, 14), 0xF80E_E00E),
	)
}

func TestEncodeOfShiftsByNumbers(t *testing.T) {
	for op, at := range map[int]int{api.OpLsl: 0xEA4F_0000, api.OpLsr: 0xEA4F_0010, api.OpAsr: 0xEA4F_0020, api.OpRor: 0xEA4F_0030} {
		by32 := never(num(op, 10, 9, 32))
		if op == api.OpLsr || op == api.OpAsr {
			by32 = flagged(num(op, 10, 9, 32), at+0x0A09)
		}
		expectWays(t,
			never(num(op, 10, 9, 0)), flagged(num(op, 10, 9, 1), at+0x0A49), flagged(num(op, 10, 9, 2), at+0x0A89), flagged(num(op, 10, 9, 4), at+0x1A09), flagged(num(op, 10, 9, 8), at+0x2A09), flagged(num(op, 10, 9, 16), at+0x4A09), flagged(num(op, 10, 9, 31), at+0x7AC9),
			by32, never(num(op, 10, 9, 33)), never(num(op, 10, 9, 64)), never(num(op, 10, 9, -1)), never(num(op, 10, 9, -32)), never(num(op, 10, 9, 1<<32+1)),
		)
	}
}

func TestEncodeOfShiftsByRegisters(t *testing.T) {
	for op, at := range map[int]int{api.OpLsl: 0xFA00_F000, api.OpLsr: 0xFA20_F000, api.OpAsr: 0xFA40_F000, api.OpRor: 0xFA60_F000} {
		expectWays(t, flagged(reg(op, 0, 0, 0), at), flagged(reg(op, 12, 0, 0), at+0xC00), flagged(reg(op, 0, 12, 0), at+0xC0000), flagged(reg(op, 0, 0, 12), at+0xC), never(reg(op, 15, 0, 0)), never(reg(op, 0, 16, 0)), never(reg(op, 0, 0, -1)))
	}
}

func TestEncodeOfLoadsAndStores(t *testing.T) {
	for op, at := range map[int]int{api.OpStrb: 0xF880_0000, api.OpLdrb: 0xF890_0000, api.OpStrh: 0xF8A0_0000, api.OpLdrh: 0xF8B0_0000, api.OpStr: 0xF8C0_0000, api.OpLdr: 0xF8D0_0000} {
		byReg := at - 0x80_0000
		expectWays(t,
			keeping(num(op, 10, 9, 0), at+0x9_A000), keeping(num(op, 10, 9, 1), at+0x9_A001), keeping(num(op, 10, 9, 4094), at+0x9_AFFE), keeping(num(op, 10, 9, 4095), at+0x9_AFFF), keeping(num(op, 10, 13, 0), at+0xD_A000), keeping(num(op, 10, 13, 4095), at+0xD_AFFF),
			never(num(op, 10, 9, 4096)), never(num(op, 10, 13, 4096)), never(num(op, 10, 9, -1)), never(num(op, 10, 9, -4095)), never(num(op, 10, 9, 1<<32)), never(num(op, 10, 15, 4)), never(num(op, 15, 9, 4)),
			keeping(reg(op, 10, 9, 12), byReg+0x9_A00C), keeping(reg(op, 10, 13, 12), byReg+0xD_A00C), keeping(reg(op, 0, 0, 0), byReg), never(reg(op, 10, 15, 12)), never(reg(op, 15, 9, 12)), never(reg(op, 10, 9, 15)),
		)
	}
}

func TestEncodeOfMovwAndMovt(t *testing.T) {
	for op, at := range map[int]int{api.OpMovw: 0xF240_0000, api.OpMovt: 0xF2C0_0000} {
		expectWays(t,
			keeping(num(op, 12, 0, 0), at+0x0C00), keeping(num(op, 12, 0, 65535), at+0x40F_7CFF),
			keeping(num(op, 0, 0, 1), at+1), keeping(num(op, 0, 0, 0x80), at+0x80), keeping(num(op, 0, 0, 0x100), at+0x1000), keeping(num(op, 0, 0, 0x400), at+0x4000), keeping(num(op, 0, 0, 0x800), at+0x400_0000),
			keeping(num(op, 0, 0, 0x1000), at+0x1_0000), keeping(num(op, 0, 0, 0x2000), at+0x2_0000), keeping(num(op, 0, 0, 0x4000), at+0x4_0000), keeping(num(op, 0, 0, 0x8000), at+0x8_0000),
			never(num(op, 12, 0, 65536)), never(num(op, 12, 0, 65537)), never(num(op, 12, 0, -1)), never(num(op, 12, 0, 1<<32)), never(num(op, 12, 1, 5)), never(reg(op, 12, 0, 1)),
		)
	}
}

func TestEncodeOfLists(t *testing.T) {
	for op, at := range map[int]int{api.OpStm: 0xE8A0_0000, api.OpLdm: 0xE8B0_0000} {
		expectWays(t,
			never(many(op, 9, 0)), never(many(op, 9, 1)), never(many(op, 9, 0x4000)), keeping(many(op, 9, 3), at+0x9_0003), keeping(many(op, 9, 0x4001), at+0x9_4001), keeping(many(op, 9, 0x5000), at+0x9_5000), keeping(many(op, 9, 0x5DFF), at+0x9_5DFF), keeping(many(op, 14, 0x1FFF), at+0xE_1FFF), keeping(many(op, 0, 6), at+6),
			never(many(op, 9, 0x8001)), never(many(op, 9, 0xC001)), never(many(op, 9, 0x2001)), never(many(op, 9, 0x201)), never(many(op, 9, 0x203)), never(many(op, 15, 3)), never(many(op, 9, 0x1_0003)), never(many(op, 9, 1<<32+3)), never(many(op, 9, -1)),
		)
	}
	expectWays(t,
		keeping(many(api.OpPush, 0, 0x0003), 0xE92D_0003), keeping(many(api.OpPush, 0, 0x4001), 0xE92D_4001), keeping(many(api.OpPush, 0, 0x1800), 0xE92D_1800), keeping(many(api.OpPush, 0, 0x5FFF), 0xE92D_5FFF),
		never(many(api.OpPush, 0, 0x8001)), never(many(api.OpPush, 0, 0x8003)), never(many(api.OpPush, 0, 0x2003)), never(many(api.OpPush, 0, 0x1_0003)), never(many(api.OpPush, 0, 1<<32+3)), never(many(api.OpPush, 0, 0)), never(many(api.OpPush, 1, 0x0C)),
		keeping(many(api.OpPop, 0, 0x0003), 0xE8BD_0003), keeping(many(api.OpPop, 0, 0x4001), 0xE8BD_4001), keeping(many(api.OpPop, 0, 0x8001), 0xE8BD_8001), keeping(many(api.OpPop, 0, 0x9FFF), 0xE8BD_9FFF), keeping(many(api.OpPop, 0, 0x5FFF), 0xE8BD_5FFF),
		never(many(api.OpPop, 0, 0xC000)), never(many(api.OpPop, 0, 0xC001)), never(many(api.OpPop, 0, 0xDFFF)), never(many(api.OpPop, 0, 0x2003)), never(many(api.OpPop, 0, 0xA000)), never(many(api.OpPop, 0, 1<<32+3)), never(many(api.OpPop, 0, 0)), never(many(api.OpPop, 13, 0x0C)),
	)
	for r := range 18 {
		expectWays(t, never(many(api.OpPush, 0, 1<<r)), never(many(api.OpPop, 0, 1<<r)), never(many(api.OpStm, 0, 1<<r)), never(many(api.OpLdm, 0, 1<<r)))
	}
}

func TestEncodeOfBranchesOnConditions(t *testing.T) {
	for c := range api.AL {
		at := 0xF000_8000 + 0x40_0000*c
		expectWays(t,
			outside(onCond(api.OpB, c, 0), at), outside(onCond(api.OpB, c, 2), at+1), outside(onCond(api.OpB, c, -2), at+0x43F_2FFF), outside(onCond(api.OpB, c, 254), at+0x7F), outside(onCond(api.OpB, c, 256), at+0x80), outside(onCond(api.OpB, c, 4096), at+0x1_0000),
			outside(onCond(api.OpB, c, 1<<18), at+0x2000), outside(onCond(api.OpB, c, 1<<19), at+0x800), outside(onCond(api.OpB, c, 1<<20-2), at+0x3F_2FFF), outside(onCond(api.OpB, c, -1<<20), at+0x400_0000),
			never(onCond(api.OpB, c, 1<<20)), never(onCond(api.OpB, c, -1<<20-2)), never(onCond(api.OpB, c, 1<<24-2)), never(onCond(api.OpB, c, -1<<24)), never(onCond(api.OpB, c, 1)), never(onCond(api.OpB, c, -1)), never(onCond(api.OpB, c, 1<<32)),
		)
	}
	expectWays(t, never(onCond(api.OpB, 15, 0)), never(onCond(api.OpB, -1, 0)), never(onCond(api.OpB, 16, 0)), never(onCond(api.OpB, 1<<32, 0)))
}

func TestEncodeOfFarBranches(t *testing.T) {
	for op, at := range map[int]int{api.OpB: 0xF000_9000, api.OpBl: 0xF000_D000} {
		c := 0
		if op == api.OpB {
			c = api.AL
		}
		expectWays(t,
			keeping(onCond(op, c, 0), at+0x2800), keeping(onCond(op, c, 2), at+0x2801), keeping(onCond(op, c, -2), at+0x7FF_2FFF), keeping(onCond(op, c, 4096), at+0x1_2800), keeping(onCond(op, c, 1<<20), at+0x100_2800), keeping(onCond(op, c, -1<<20-2), at+0x6FF_2FFF),
			keeping(onCond(op, c, 1<<22), at+0x2000), keeping(onCond(op, c, 1<<23), at+0x800), keeping(onCond(op, c, 1<<24-2), at+0x3FF_07FF), keeping(onCond(op, c, -1<<24), at+0x400_0000),
			never(onCond(op, c, 1<<24)), never(onCond(op, c, -1<<24-2)), never(onCond(op, c, 1)), never(onCond(op, c, 1<<24-1)), never(onCond(op, c, -1<<24+1)), never(onCond(op, c, 1<<32)), never(onCond(op, c, math.MaxInt-1)), never(onCond(op, c, math.MinInt)),
		)
	}
	expectWays(t, never(onCond(api.OpBl, 1, 0)), never(onCond(api.OpBl, api.AL, 0)))
}

func TestEncodeOfLitAndAdr(t *testing.T) {
	for _, x := range []struct{ op, ahead, behind, most int }{
		{api.OpLit, 0xF8DF_C000, 0xF85F_C000, 0xFFF}, {api.OpAdr, 0xF20F_0C00, 0xF2AF_0C00, 0x400_70FF},
	} {
		expectWays(t,
			keeping(num(x.op, 12, 0, 0), x.ahead), keeping(num(x.op, 12, 0, 1), x.ahead+1), keeping(num(x.op, 12, 0, 4095), x.ahead+x.most), keeping(num(x.op, 12, 0, -1), x.behind+1), keeping(num(x.op, 12, 0, -4095), x.behind+x.most),
			never(num(x.op, 12, 0, 4096)), never(num(x.op, 12, 0, -4096)), never(num(x.op, 12, 0, 1<<32)), never(num(x.op, 12, 0, -1<<32)), never(num(x.op, 12, 0, math.MinInt)), never(num(x.op, 12, 15, 4)), never(num(x.op, 15, 0, 4)), never(reg(x.op, 12, 0, 4)),
		)
	}
}

func TestEncodeOfNopAndTbb(t *testing.T) {
	expectWays(t,
		keeping(api.Ins{Op: api.OpNop}, 0xF3AF_8000), never(num(api.OpNop, 0, 0, 0)), never(reg(api.OpNop, 0, 0, 0)), never(api.Ins{Op: api.OpNop, Rd: 1}), never(api.Ins{Op: api.OpNop, Cond: api.AL}), never(many(api.OpNop, 0, 3)),
		keeping(reg(api.OpTbb, 0, 0, 0), 0xE8D0_F000), keeping(reg(api.OpTbb, 0, 12, 9), 0xE8DC_F009), keeping(reg(api.OpTbb, 0, 9, 12), 0xE8D9_F00C), never(reg(api.OpTbb, 1, 9, 12)), never(reg(api.OpTbb, 0, 15, 0)), never(num(api.OpTbb, 0, 9, 0)),
	)
}

// row is a row of the chapter's table, in its own words: what is, beside the operation, asked of an instruction that Check takes, and what is added to its operation's halfwords.
type row struct {
	ops   map[int]int
	is    func(i api.Ins, it bool) bool
	above func(i api.Ins) int
}

func byReg(i api.Ins, it bool) bool { return i.Mode == api.ModeReg }
func byNum(i api.Ins, it bool) bool { return i.Mode == api.ModeImm }
func every(i api.Ins, it bool) bool { return true }

// first is a field of the first halfword, from its bit n on.
func first(x, n int) int { return x * 65536 << n }

func flag(i api.Ins) int {
	if i.S {
		return sBit
	}
	return 0
}

func twelve(n int) int { return first(n/2048, 10) + n/256%8*4096 + n%256 }

func away(n int) int { return max(n, -n) }

// r, d at 8, and S.
func rd8(i api.Ins) int { return flag(i) + first(i.Rn, 0) + i.Rd*256 }

func rd8m(i api.Ins) int { return rd8(i) + i.Rm }

// pieces answers those that kinds 3 and 4 have alike: bits 11 to 1, and above them count bits in the first halfword.
func pieces(off, count int) int { return off>>1&0x7FF + first(off>>12&(1<<count-1), 0) }

func kind3(off int) int {
	return pieces(off, 6) + first(off>>20&1, 10) + off>>18&1<<13 + off>>19&1<<11
}

func kind4(off int) int {
	s := off >> 24 & 1
	return pieces(off, 10) + first(s, 10) + (1-off>>23&1^s)<<13 + (1-off>>22&1^s)<<11
}

// numberedAt answers the halfwords of the operations of a row 'op'.
func numberedAt(begin int) map[int]int {
	m := map[int]int{}
	for op, number := range numbers {
		m[op] = begin + first(number, 5)
		if isMove(op) {
			m[op] += first(15, 0)
		}
		if isCompare(op) {
			m[op] += sBit + 15*256
		}
	}
	return m
}

func numberRows() []row {
	found := func(i api.Ins, it bool) bool {
		_, ok := expand.Find(uint32(i.Imm))
		return byNum(i, it) && ok
	}
	return []row{
		{numberedAt(0xF000_0000), found, func(i api.Ins) int { n, _ := expand.Find(uint32(i.Imm)); return rd8(i) + twelve(n) }},
		{map[int]int{api.OpAdd: 0xF200_0000, api.OpSub: 0xF2A0_0000}, func(i api.Ins, it bool) bool { return byNum(i, it) && i.Imm <= 4095 && !i.S }, func(i api.Ins) int { return rd8(i) + twelve(i.Imm) }},
		{numberedAt(0xEA00_0000), func(i api.Ins, it bool) bool { return byReg(i, it) && i.Rd != 13 && i.Rm != 13 }, rd8m},
		{map[int]int{api.OpLsl: 0xEA4F_0000, api.OpLsr: 0xEA4F_0010, api.OpAsr: 0xEA4F_0020, api.OpRor: 0xEA4F_0030}, byNum, func(i api.Ins) int {
			return flag(i) + i.Imm/4%8*4096 + i.Rd*256 + i.Imm%4*64 + i.Rn
		}},
		{map[int]int{api.OpLsl: 0xFA00_F000, api.OpLsr: 0xFA20_F000, api.OpAsr: 0xFA40_F000, api.OpRor: 0xFA60_F000}, byReg, rd8m},
		{map[int]int{api.OpMul: 0xFB00_F000}, every, rd8m},
		{map[int]int{api.OpSdiv: 0xFB90_F0F0, api.OpUdiv: 0xFBB0_F0F0}, every, rd8m},
		{map[int]int{api.OpMovw: 0xF240_0000, api.OpMovt: 0xF2C0_0000}, every, func(i api.Ins) int { return first(i.Imm/4096, 0) + twelve(i.Imm%4096) + i.Rd*256 }},
	}
}

func memoryRows() []row {
	list := func(i api.Ins) int { return first(i.Rn, 0) + i.List }
	return []row{
		{map[int]int{api.OpStrb: 0xF880_0000, api.OpLdrb: 0xF890_0000, api.OpStrh: 0xF8A0_0000, api.OpLdrh: 0xF8B0_0000, api.OpStr: 0xF8C0_0000, api.OpLdr: 0xF8D0_0000}, byNum, func(i api.Ins) int { return first(i.Rn, 0) + i.Rd*4096 + i.Imm }},
		{map[int]int{api.OpStrb: 0xF800_0000, api.OpLdrb: 0xF810_0000, api.OpStrh: 0xF820_0000, api.OpLdrh: 0xF830_0000, api.OpStr: 0xF840_0000, api.OpLdr: 0xF850_0000}, byReg, func(i api.Ins) int { return first(i.Rn, 0) + i.Rd*4096 + i.Rm }},
		{map[int]int{api.OpStm: 0xE8A0_0000, api.OpLdm: 0xE8B0_0000}, every, list},
		{map[int]int{api.OpPush: 0xE92D_0000, api.OpPop: 0xE8BD_0000}, func(i api.Ins, it bool) bool { return bits.OnesCount(uint(i.List)) >= 2 }, list},
	}
}

func otherRows() []row {
	ahead := func(i api.Ins, it bool) bool { return i.Imm >= 0 }
	load := func(i api.Ins) int { return i.Rd*4096 + away(i.Imm) }
	address := func(i api.Ins) int { return i.Rd*256 + twelve(away(i.Imm)) }
	return []row{
		{map[int]int{api.OpB: 0xF000_8000}, func(i api.Ins, it bool) bool {
			return i.Cond != api.AL && !it && i.Imm >= -1048576 && i.Imm <= 1048574
		}, func(i api.Ins) int { return first(i.Cond, 6) + kind3(i.Imm) }},
		{map[int]int{api.OpB: 0xF000_9000}, func(i api.Ins, it bool) bool { return i.Cond == api.AL }, func(i api.Ins) int { return kind4(i.Imm) }},
		{map[int]int{api.OpBl: 0xF000_D000}, every, func(i api.Ins) int { return kind4(i.Imm) }},
		{map[int]int{api.OpLit: 0xF8DF_0000}, ahead, load},
		{map[int]int{api.OpLit: 0xF85F_0000}, every, load},
		{map[int]int{api.OpAdr: 0xF20F_0000}, ahead, address},
		{map[int]int{api.OpAdr: 0xF2AF_0000}, every, address},
		{map[int]int{api.OpNop: 0xF3AF_8000}, every, func(i api.Ins) int { return 0 }},
		{map[int]int{api.OpTbb: 0xE8D0_F000}, every, func(i api.Ins) int { return first(i.Rn, 0) + i.Rm }},
	}
}

var table = slices.Concat(numberRows(), memoryRows(), otherRows())

// wanted is what the table gives, or no.
func wanted(i api.Ins, it bool) int {
	if isa.Check(i) != api.OK {
		return no
	}
	for _, r := range table {
		if begin, ok := r.ops[i.Op]; ok && r.is(i, it) {
			return begin + r.above(i)
		}
	}
	return no
}

// hold holds i against the table, in all four ways.
func hold(t *testing.T, i api.Ins) {
	t.Helper()
	for _, s := range []bool{false, true} {
		for _, it := range []bool{false, true} {
			i.S = s
			expect(t, i, it, wanted(i, it))
		}
	}
	if t.Failed() {
		t.FailNow()
	}
}

func eachOp(do func(op int)) {
	for op := 1; op <= api.OpTbb; op++ {
		do(op)
	}
}

func TestEncodeOfAllRegisters(t *testing.T) {
	eachOp(func(op int) {
		for d := range 16 {
			for n := range 16 {
				hold(t, num(op, d, n, 8))
				hold(t, num(op, d, n, 0x811))
				for m := range 16 {
					hold(t, reg(op, d, n, m))
				}
			}
		}
	})
}

func TestEncodeOfAllNumbersOfTwelveBits(t *testing.T) {
	for x := -4200; x <= 4200; x++ {
		eachOp(func(op int) {
			hold(t, num(op, 1, 2, x))
			hold(t, num(op, 0, 2, x))
			hold(t, num(op, 1, 0, x))
		})
	}
}

func TestEncodeOfAllNumbersOfSixteenBits(t *testing.T) {
	for x := range 1<<16 + 5 {
		for _, op := range []int{api.OpMovw, api.OpMovt, api.OpMov, api.OpAdd} {
			hold(t, num(op, 3, 0, x))
		}
	}
}

// All numbers that are found, and such as are near to them.
func TestEncodeOfWords(t *testing.T) {
	for imm := range 4096 {
		x := int(expand.Expand(imm))
		for op := range numbers {
			hold(t, of(num(op, 1, 2, x)))
		}
		for n := range 33 {
			hold(t, num(api.OpAdd, 1, 2, x^1<<n))
			hold(t, num(api.OpMov, 1, 0, x^1<<n))
		}
	}
}

func TestEncodeOfAllLists(t *testing.T) {
	for list := range 1 << 16 {
		hold(t, many(api.OpPush, 0, list))
		hold(t, many(api.OpPop, 0, list))
		for _, n := range []int{0, 9, 14} {
			hold(t, many(api.OpStm, n, list))
			hold(t, many(api.OpLdm, n, list))
		}
	}
}

// offsets are those near to the powers of 2, and some from all over.
func offsets() []int {
	var l []int
	for n := range 26 {
		for x := -9; x <= 9; x++ {
			l = append(l, 1<<n+x, -1<<n+x)
		}
	}
	for x := -1 << 24; x < 1<<24; x += 2 * 1021 {
		l = append(l, x)
	}
	return append(l, 1<<32, 1<<32+2, -1<<32, math.MaxInt, math.MaxInt-1, math.MinInt, math.MinInt+2)
}

func TestEncodeOfOffsets(t *testing.T) {
	for _, x := range offsets() {
		for c := range 15 {
			hold(t, onCond(api.OpB, c, x))
		}
		hold(t, num(api.OpBl, 0, 0, x))
	}
}

// encoded are instructions that have halfwords, one a row or more.
func encoded() []api.Ins {
	return []api.Ins{
		num(api.OpMov, 1, 0, 5), setting(num(api.OpAnd, 1, 2, 5)), num(api.OpCmp, 0, 2, 5), num(api.OpAdd, 1, 2, 257), num(api.OpSub, 1, 2, 257), reg(api.OpMov, 1, 0, 3), setting(reg(api.OpMvn, 1, 0, 3)), reg(api.OpBic, 1, 2, 3), reg(api.OpTeq, 0, 2, 3),
		num(api.OpLsl, 1, 2, 5), setting(num(api.OpRor, 1, 2, 5)), num(api.OpAsr, 1, 2, 32), reg(api.OpLsr, 1, 2, 3), reg(api.OpMul, 1, 2, 3), reg(api.OpSdiv, 1, 2, 3), reg(api.OpUdiv, 1, 2, 3), num(api.OpMovw, 1, 0, 5), num(api.OpMovt, 1, 0, 5),
		num(api.OpStrb, 1, 2, 5), num(api.OpLdr, 1, 13, 5), reg(api.OpStrh, 1, 2, 3), reg(api.OpLdrb, 1, 13, 3), many(api.OpStm, 2, 0x11), many(api.OpLdm, 2, 0x11), many(api.OpPush, 0, 0x4001), many(api.OpPop, 0, 0x8001),
		onCond(api.OpB, api.NE, 8), onCond(api.OpB, api.AL, 8), num(api.OpBl, 0, 0, 8), num(api.OpLit, 1, 0, 8), num(api.OpLit, 1, 0, -8), num(api.OpAdr, 1, 0, 8), num(api.OpAdr, 1, 0, -8), {Op: api.OpNop}, reg(api.OpTbb, 0, 2, 3),
	}
}

// fields are the places of an instruction's numbers.
func fields(i *api.Ins) []*int {
	return []*int{&i.Op, &i.Cond, &i.Rd, &i.Rn, &i.Rm, &i.Imm, &i.Mode, &i.List}
}

func TestEncodeOfChangedFields(t *testing.T) {
	values := []int{0, 1, 2, 3, 7, 8, 12, 13, 14, 15, 16, 64, 255, 256, 257, 4096, 1 << 16, 1 << 32, 1<<32 + 1, -1, -8, -1 << 32, math.MaxInt, math.MinInt}
	for _, whole := range encoded() {
		if !Can(whole, false) {
			t.Errorf("Can(%+v, false): false", whole)
		}
		for a := range fields(&whole) {
			for b := range a + 1 {
				for _, x := range values {
					for _, y := range values {
						i := whole
						*fields(&i)[a] = x
						*fields(&i)[b] = y
						hold(t, i)
					}
				}
			}
		}
	}
}

func TestEncodeOfFieldsBeyond32Bits(t *testing.T) {
	for _, whole := range encoded() {
		for f := range fields(&whole) {
			for _, beyond := range []int{1 << 32, -1 << 32, 1 << 40, 1 << 62, math.MinInt} {
				i := whole
				*fields(&i)[f] += beyond
				expect(t, i, false, no)
				expect(t, i, true, no)
			}
		}
	}
}

// These are each of a row but for one field, which is not their own: Check takes none of them.
func TestEncodeOfFieldsThatAreNotTheirOwn(t *testing.T) {
	for _, i := range []api.Ins{
		{Op: api.OpNop, Rn: 1}, {Op: api.OpNop, Rm: 1}, {Op: api.OpNop, Imm: 1}, {Op: api.OpNop, S: true}, {Op: api.OpPush, List: 3, Mode: api.ModeImm}, {Op: api.OpPush, List: 3, Rn: 13}, {Op: api.OpPop, List: 3, Imm: 4}, {Op: api.OpPop, List: 3, Cond: api.AL}, {Op: api.OpStm, Rn: 2, List: 3, Rd: 1}, {Op: api.OpStm, Rn: 2, List: 3, Mode: api.ModeReg}, {Op: api.OpLdm, Rn: 2, List: 3, S: true},
		{Op: api.OpAnd, Rd: 1, Rn: 1, Rm: 2, Mode: api.ModeReg, Cond: 1}, {Op: api.OpAnd, Rd: 1, Rn: 1, Rm: 2, Mode: api.ModeReg, Imm: 1}, {Op: api.OpAnd, Rd: 1, Rn: 1, Rm: 2, Mode: api.ModeReg, List: 1}, {Op: api.OpAnd, Rd: 1, Rn: 1, Rm: 2}, {Op: api.OpRsb, Rd: 1, Rn: 2, Rm: 3, Mode: api.ModeImm},
		{Op: api.OpMvn, Rd: 1, Rn: 1, Rm: 2, Mode: api.ModeReg}, {Op: api.OpTst, Rd: 1, Rn: 1, Rm: 2, Mode: api.ModeReg}, {Op: api.OpCmp, Rn: 1, Imm: 5, Rm: 2, Mode: api.ModeImm}, {Op: api.OpCmp, Rn: 1, Rm: 2, Mode: api.ModeReg, S: true}, {Op: api.OpMov, Rd: 1, Rn: 1, Imm: 5, Mode: api.ModeImm},
		{Op: api.OpMul, Rd: 1, Rn: 2, Rm: 3}, {Op: api.OpMul, Rd: 1, Rn: 2, Rm: 3, Imm: 1, Mode: api.ModeReg}, {Op: api.OpUdiv, Rd: 1, Rn: 2, Rm: 3, Mode: api.ModeReg, S: true}, {Op: api.OpSdiv, Rd: 1, Rn: 2, Imm: 3, Mode: api.ModeImm}, {Op: api.OpMovw, Rd: 1, Imm: 5, Mode: api.ModeImm, S: true}, {Op: api.OpMovt, Rd: 1, Rm: 1, Imm: 5, Mode: api.ModeImm},
		{Op: api.OpLdr, Rd: 1, Rn: 2, Imm: 4, Mode: api.ModeImm, S: true}, {Op: api.OpLdr, Rd: 1, Rn: 13, Imm: 4, Rm: 1, Mode: api.ModeImm}, {Op: api.OpStrb, Rd: 1, Rn: 2, Rm: 3, Imm: 1, Mode: api.ModeReg}, {Op: api.OpStrh, Rd: 1, Rn: 2, Imm: 4},
		{Op: api.OpB, Cond: api.AL, Mode: api.ModeImm, Rd: 1}, {Op: api.OpB, Cond: api.AL}, {Op: api.OpB, Cond: api.EQ, Mode: api.ModeImm, S: true}, {Op: api.OpBl, Rn: 1, Mode: api.ModeImm}, {Op: api.OpBl, Cond: api.AL, Mode: api.ModeImm}, {Op: api.OpBl}, {Op: api.OpLit, Rd: 1, Rn: 15, Imm: 4, Mode: api.ModeImm}, {Op: api.OpAdr, Rd: 1, Imm: 4}, {Op: api.OpAdr, Rd: 1, Imm: 4, Mode: api.ModeImm, S: true},
		{Op: api.OpTbb, Rn: 1, Rm: 2}, {Op: api.OpTbb, Rd: 15, Rn: 1, Rm: 2, Mode: api.ModeReg}, {Op: api.OpTbb, Rn: 1, Rm: 2, Imm: 1, Mode: api.ModeReg},
	} {
		expect(t, i, false, no)
		expect(t, i, true, no)
	}
}

func TestEncodeOfNoOperation(t *testing.T) {
	for _, op := range []int{0, -1, -5, -43, 46, 47, 64, 255, 256 + api.OpNop, 1<<16 + api.OpNop, 1<<32 + api.OpNop, 1<<32 + api.OpAnd, -1<<32 + api.OpMul, math.MaxInt, math.MinInt} {
		for _, i := range append(encoded(), api.Ins{}) {
			i.Op = op
			expect(t, i, false, no)
			expect(t, i, true, no)
		}
	}
}

func TestEncodeOfNoMode(t *testing.T) {
	for _, mode := range []int{-1, -2, 3, 4, 256, 1<<32 + api.ModeImm, 1<<32 + api.ModeReg, 1 << 32, math.MaxInt, math.MinInt} {
		for _, i := range encoded() {
			i.Mode = mode
			expect(t, i, false, no)
			expect(t, i, true, no)
		}
	}
}
