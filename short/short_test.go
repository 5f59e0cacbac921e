package short

import (
	"math"
	"testing"

	"cartouche/api"
	"cartouche/isa"
	"cartouche/narrow"
)

// none is told where a halfword is of no instruction.
var none = api.Ins{}

func reg(op, d, n, m int) api.Ins {
	return api.Ins{Op: op, Rd: d, Rn: n, Rm: m, Mode: api.ModeReg}
}

func num(op, d, n, x int) api.Ins {
	return api.Ins{Op: op, Rd: d, Rn: n, Imm: x, Mode: api.ModeImm}
}

func many(op, n, list int) api.Ins {
	return api.Ins{Op: op, Rn: n, List: list}
}

func onCondition(op, c, x int) api.Ins {
	return api.Ins{Op: op, Cond: c, Imm: x, Mode: api.ModeImm}
}

// setting is i, telling that it sets flags.
func setting(i api.Ins) api.Ins {
	i.S = true
	return i
}

// expect holds Decode against an instruction, or none.
func expect(t *testing.T, h int, it bool, want api.Ins) {
	t.Helper()
	if got, ok := Decode(h, it); got != want || ok != (want != none) {
		t.Errorf("Decode(%#04x, %v): %+v, %v, not %+v", h, it, got, ok, want)
	}
}

// ways is a halfword, and what is read of it out of blocks and in them.
type ways struct {
	h       int
	out, in api.Ins
}

func expectWays(t *testing.T, l ...ways) {
	t.Helper()
	for _, x := range l {
		expect(t, x.h, false, x.out)
		expect(t, x.h, true, x.in)
	}
}

// setsOutside is what sets flags outside of blocks alone.
func setsOutside(h int, i api.Ins) ways { return ways{h, setting(i), i} }

// anywhere is what is the same in blocks and out of them.
func anywhere(h int, i api.Ins) ways { return ways{h, i, i} }

func outsideOnly(h int, i api.Ins) ways { return ways{h, i, none} }

func insideOnly(h int, i api.Ins) ways { return ways{h, none, i} }

// never is what is no instruction in either way.
func never(t *testing.T, l ...int) {
	t.Helper()
	for _, h := range l {
		expectWays(t, ways{h, none, none})
	}
}

func TestDecodeOfEachRow(t *testing.T) {
	expectWays(t,
		setsOutside(0x4011, reg(api.OpAnd, 1, 1, 2)), setsOutside(0x4051, reg(api.OpEor, 1, 1, 2)), setsOutside(0x4151, reg(api.OpAdc, 1, 1, 2)), setsOutside(0x4191, reg(api.OpSbc, 1, 1, 2)), setsOutside(0x4311, reg(api.OpOrr, 1, 1, 2)), setsOutside(0x4391, reg(api.OpBic, 1, 1, 2)),
		setsOutside(0x4251, num(api.OpRsb, 1, 2, 0)), setsOutside(0x43D1, reg(api.OpMvn, 1, 0, 2)), insideOnly(0x4351, reg(api.OpMul, 1, 2, 1)), anywhere(0x4211, reg(api.OpTst, 0, 1, 2)), anywhere(0x42D1, reg(api.OpCmn, 0, 1, 2)),
		anywhere(0x4291, reg(api.OpCmp, 0, 1, 2)), anywhere(0x4541, reg(api.OpCmp, 0, 1, 8)), anywhere(0x4591, reg(api.OpCmp, 0, 9, 2)), anywhere(0x29C8, num(api.OpCmp, 0, 1, 200)),
		setsOutside(0x21C8, num(api.OpMov, 1, 0, 200)), outsideOnly(0x0011, setting(reg(api.OpMov, 1, 0, 2))), anywhere(0x4690, reg(api.OpMov, 8, 0, 2)), anywhere(0x4611, reg(api.OpMov, 1, 0, 2)),
		setsOutside(0x18D1, reg(api.OpAdd, 1, 2, 3)), setsOutside(0x1AD1, reg(api.OpSub, 1, 2, 3)), anywhere(0x4411, reg(api.OpAdd, 1, 1, 2)), anywhere(0x4488, reg(api.OpAdd, 8, 8, 1)),
		setsOutside(0x1CD1, num(api.OpAdd, 1, 2, 3)), setsOutside(0x1ED1, num(api.OpSub, 1, 2, 3)), setsOutside(0x31C8, num(api.OpAdd, 1, 1, 200)), setsOutside(0x39C8, num(api.OpSub, 1, 1, 200)),
		setsOutside(0x00D1, num(api.OpLsl, 1, 2, 3)), setsOutside(0x08D1, num(api.OpLsr, 1, 2, 3)), setsOutside(0x10D1, num(api.OpAsr, 1, 2, 3)),
		setsOutside(0x4091, reg(api.OpLsl, 1, 1, 2)), setsOutside(0x40D1, reg(api.OpLsr, 1, 1, 2)), setsOutside(0x4111, reg(api.OpAsr, 1, 1, 2)), setsOutside(0x41D1, reg(api.OpRor, 1, 1, 2)),
		anywhere(0x60D1, num(api.OpStr, 1, 2, 12)), anywhere(0x68D1, num(api.OpLdr, 1, 2, 12)), anywhere(0x70D1, num(api.OpStrb, 1, 2, 3)), anywhere(0x78D1, num(api.OpLdrb, 1, 2, 3)), anywhere(0x80D1, num(api.OpStrh, 1, 2, 6)), anywhere(0x88D1, num(api.OpLdrh, 1, 2, 6)),
		anywhere(0x9103, num(api.OpStr, 1, 13, 12)), anywhere(0x9903, num(api.OpLdr, 1, 13, 12)),
		anywhere(0x50D1, reg(api.OpStr, 1, 2, 3)), anywhere(0x52D1, reg(api.OpStrh, 1, 2, 3)), anywhere(0x54D1, reg(api.OpStrb, 1, 2, 3)), anywhere(0x58D1, reg(api.OpLdr, 1, 2, 3)), anywhere(0x5AD1, reg(api.OpLdrh, 1, 2, 3)), anywhere(0x5CD1, reg(api.OpLdrb, 1, 2, 3)),
		anywhere(0xC20B, many(api.OpStm, 2, 0x0B)), anywhere(0xCA0B, many(api.OpLdm, 2, 0x0B)), anywhere(0xB511, many(api.OpPush, 0, 0x4011)), anywhere(0xBD11, many(api.OpPop, 0, 0x8011)),
		outsideOnly(0xD1FE, onCondition(api.OpB, api.NE, -4)), anywhere(0xE7FE, onCondition(api.OpB, api.AL, -4)), outsideOnly(0xB30B, num(api.OpCbz, 0, 3, 66)), outsideOnly(0xBB0B, num(api.OpCbnz, 0, 3, 66)),
		anywhere(0x4770, reg(api.OpBx, 0, 0, 14)), anywhere(0x4903, num(api.OpLit, 1, 0, 12)), anywhere(0xA103, num(api.OpAdr, 1, 0, 12)),
		outsideOnly(0xBF18, onCondition(api.OpIt, api.NE, 8)), anywhere(0xBF00, api.Ins{Op: api.OpNop}), anywhere(0xBE07, num(api.OpBkpt, 0, 0, 7)),
	)
}

func TestDecodeOfTheExamples(t *testing.T) {
	expect(t, 0x2001, false, setting(num(api.OpMov, 0, 0, 1)))
	expect(t, 0x3001, false, setting(num(api.OpAdd, 0, 0, 1)))
	expect(t, 0xDE00, false, none)
}

func TestDecodeOfTheRowsEdges(t *testing.T) {
	expectWays(t,
		setsOutside(0x2000, num(api.OpMov, 0, 0, 0)), setsOutside(0x27FF, num(api.OpMov, 7, 0, 255)), anywhere(0x2800, num(api.OpCmp, 0, 0, 0)), anywhere(0x2FFF, num(api.OpCmp, 0, 7, 255)),
		setsOutside(0x1C00, num(api.OpAdd, 0, 0, 0)), setsOutside(0x1DFF, num(api.OpAdd, 7, 7, 7)), setsOutside(0x1E00, num(api.OpSub, 0, 0, 0)), setsOutside(0x1FFF, num(api.OpSub, 7, 7, 7)), setsOutside(0x3000, num(api.OpAdd, 0, 0, 0)), setsOutside(0x37FF, num(api.OpAdd, 7, 7, 255)), setsOutside(0x3800, num(api.OpSub, 0, 0, 0)), setsOutside(0x3FFF, num(api.OpSub, 7, 7, 255)),
		// A shift left by 0 is a copy; the others by 0 are by 32.
		outsideOnly(0x0000, setting(reg(api.OpMov, 0, 0, 0))), outsideOnly(0x003F, setting(reg(api.OpMov, 7, 0, 7))), setsOutside(0x0040, num(api.OpLsl, 0, 0, 1)), setsOutside(0x07FF, num(api.OpLsl, 7, 7, 31)),
		setsOutside(0x0800, num(api.OpLsr, 0, 0, 32)), setsOutside(0x083F, num(api.OpLsr, 7, 7, 32)), setsOutside(0x0840, num(api.OpLsr, 0, 0, 1)), setsOutside(0x0FFF, num(api.OpLsr, 7, 7, 31)), setsOutside(0x1000, num(api.OpAsr, 0, 0, 32)), setsOutside(0x1011, num(api.OpAsr, 1, 2, 32)), setsOutside(0x1040, num(api.OpAsr, 0, 0, 1)), setsOutside(0x17FF, num(api.OpAsr, 7, 7, 31)),
		anywhere(0x6000, num(api.OpStr, 0, 0, 0)), anywhere(0x6FFF, num(api.OpLdr, 7, 7, 124)), anywhere(0x7000, num(api.OpStrb, 0, 0, 0)), anywhere(0x7FFF, num(api.OpLdrb, 7, 7, 31)), anywhere(0x8000, num(api.OpStrh, 0, 0, 0)), anywhere(0x8FFF, num(api.OpLdrh, 7, 7, 62)), anywhere(0x9000, num(api.OpStr, 0, 13, 0)), anywhere(0x9FFF, num(api.OpLdr, 7, 13, 1020)),
		anywhere(0x4800, num(api.OpLit, 0, 0, 0)), anywhere(0x4FFF, num(api.OpLit, 7, 0, 1020)), anywhere(0xA000, num(api.OpAdr, 0, 0, 0)), anywhere(0xA7FF, num(api.OpAdr, 7, 0, 1020)), anywhere(0xBE00, num(api.OpBkpt, 0, 0, 0)), anywhere(0xBEFF, num(api.OpBkpt, 0, 0, 255)),
		outsideOnly(0xD000, onCondition(api.OpB, api.EQ, 0)), outsideOnly(0xD07F, onCondition(api.OpB, api.EQ, 254)), outsideOnly(0xDD80, onCondition(api.OpB, api.LE, -256)), outsideOnly(0xDDFF, onCondition(api.OpB, api.LE, -2)),
		anywhere(0xE000, onCondition(api.OpB, api.AL, 0)), anywhere(0xE3FF, onCondition(api.OpB, api.AL, 2046)), anywhere(0xE400, onCondition(api.OpB, api.AL, -2048)), anywhere(0xE7FF, onCondition(api.OpB, api.AL, -2)),
		outsideOnly(0xB100, num(api.OpCbz, 0, 0, 0)), outsideOnly(0xB1FF, num(api.OpCbz, 0, 7, 62)), outsideOnly(0xB300, num(api.OpCbz, 0, 0, 64)), outsideOnly(0xB3FF, num(api.OpCbz, 0, 7, 126)), outsideOnly(0xB900, num(api.OpCbnz, 0, 0, 0)), outsideOnly(0xBBFF, num(api.OpCbnz, 0, 7, 126)),
		anywhere(0xB401, many(api.OpPush, 0, 1)), anywhere(0xB4FF, many(api.OpPush, 0, 0xFF)), anywhere(0xB500, many(api.OpPush, 0, 0x4000)), anywhere(0xB5FF, many(api.OpPush, 0, 0x40FF)), anywhere(0xBC80, many(api.OpPop, 0, 0x80)), anywhere(0xBD00, many(api.OpPop, 0, 0x8000)), anywhere(0xBDFF, many(api.OpPop, 0, 0x80FF)),
		anywhere(0xC006, many(api.OpStm, 0, 6)), anywhere(0xC77F, many(api.OpStm, 7, 0x7F)), anywhere(0xC8FE, many(api.OpLdm, 0, 0xFE)), anywhere(0xCF03, many(api.OpLdm, 7, 3)),
		anywhere(0x4700, reg(api.OpBx, 0, 0, 0)), anywhere(0x4768, reg(api.OpBx, 0, 0, 13)), anywhere(0x4600, reg(api.OpMov, 0, 0, 0)), anywhere(0x4668, reg(api.OpMov, 0, 0, 13)), anywhere(0x46F6, reg(api.OpMov, 14, 0, 14)), anywhere(0x46ED, reg(api.OpMov, 13, 0, 13)), anywhere(0x46AE, reg(api.OpMov, 14, 0, 5)), anywhere(0x4400, reg(api.OpAdd, 0, 0, 0)), anywhere(0x44F6, reg(api.OpAdd, 14, 14, 14)), anywhere(0x4464, reg(api.OpAdd, 4, 4, 12)),
		outsideOnly(0xBF08, onCondition(api.OpIt, api.EQ, 8)), outsideOnly(0xBF01, onCondition(api.OpIt, api.EQ, 1)), outsideOnly(0xBFDF, onCondition(api.OpIt, api.LE, 15)), outsideOnly(0xBFE8, onCondition(api.OpIt, api.AL, 8)), outsideOnly(0xBFE1, onCondition(api.OpIt, api.AL, 1)),
	)
}

// Of some words two halfwords are read, where chapter 7 gives the first one's alone.
func TestDecodeOfRowsThatOthersStandAheadOf(t *testing.T) {
	expectWays(t,
		setsOutside(0x1C49, num(api.OpAdd, 1, 1, 1)), setsOutside(0x3101, num(api.OpAdd, 1, 1, 1)), setsOutside(0x1FC9, num(api.OpSub, 1, 1, 7)), setsOutside(0x3907, num(api.OpSub, 1, 1, 7)),
		setsOutside(0x1889, reg(api.OpAdd, 1, 1, 2)), anywhere(0x4411, reg(api.OpAdd, 1, 1, 2)),
	)
}

func TestDecodeOfTheRowNotOfTwoLowRegisters(t *testing.T) {
	expectWays(t,
		anywhere(0x4280, reg(api.OpCmp, 0, 0, 0)), anywhere(0x42BF, reg(api.OpCmp, 0, 7, 7)),
		anywhere(0x4540, reg(api.OpCmp, 0, 0, 8)), anywhere(0x4547, reg(api.OpCmp, 0, 7, 8)), anywhere(0x4570, reg(api.OpCmp, 0, 0, 14)), anywhere(0x4580, reg(api.OpCmp, 0, 8, 0)), anywhere(0x45B8, reg(api.OpCmp, 0, 8, 7)), anywhere(0x4586, reg(api.OpCmp, 0, 14, 0)), anywhere(0x45C0, reg(api.OpCmp, 0, 8, 8)), anywhere(0x45F6, reg(api.OpCmp, 0, 14, 14)),
	)
	for h := 0x4500; h <= 0x453F; h++ {
		never(t, h)
	}
}

func TestDecodeOfNoInstruction(t *testing.T) {
	// Blocks that end with no instruction, or whose condition is none, or al's other one.
	never(t, 0xBF10, 0xBF20, 0xBFD0, 0xBFE0, 0xBFF0, 0xBFF8, 0xBFF1, 0xBFFF, 0xBFEC, 0xBFEA, 0xBFE9, 0xBFE3, 0xBFEF)
	// sp and pc where they may not be.
	never(t, 0x4687, 0x4678, 0x46FF, 0x46BF, 0x46FD, 0x4478, 0x4468, 0x4485, 0x4487, 0x44FF, 0x4568, 0x4578, 0x4585, 0x4587, 0x4778)
	// Lists of too few registers, or with the base among them.
	never(t, 0xB400, 0xBC00, 0xC100, 0xC102, 0xC180, 0xC900, 0xC901, 0xC980, 0xC003, 0xC106, 0xC7C0, 0xC801, 0xCAFF, 0xCF80)
	// Bits that no row has a place for.
	never(t, 0x4701, 0x4704, 0x4780, 0x47F0, 0x47FF, 0x5600, 0x57FF, 0x5E00, 0x5FFF, 0xA800, 0xAFFF, 0xB000, 0xB07F, 0xB200, 0xB2FF, 0xB600, 0xB7FF, 0xB800, 0xB8FF, 0xBA00, 0xBAFF)
	// Branches on al, or on no condition.
	never(t, 0xDE00, 0xDE7F, 0xDEFF, 0xDF00, 0xDFFF)
	// What begins an instruction of two halfwords.
	never(t, 0xE800, 0xEFFF, 0xF000, 0xF04F, 0xF7FF, 0xF800, 0xFFFF)
}

func TestDecodeInAndOutOfBlocks(t *testing.T) {
	for d := range 8 {
		for n := range 8 {
			expectWays(t, insideOnly(0x4340+8*n+d, reg(api.OpMul, d, n, d)), outsideOnly(8*n+d, setting(reg(api.OpMov, d, 0, n))))
		}
		for x := 0; x <= 126; x += 2 {
			expectWays(t, outsideOnly(0xB100+x/64*512+x%64*4+d, num(api.OpCbz, 0, d, x)), outsideOnly(0xB900+x/64*512+x%64*4+d, num(api.OpCbnz, 0, d, x)))
		}
	}
	for c := api.EQ; c < api.AL; c++ {
		for mask := 1; mask < 16; mask++ {
			expectWays(t, outsideOnly(0xBF00+16*c+mask, onCondition(api.OpIt, c, mask)))
		}
		for x := -256; x <= 254; x += 2 {
			expectWays(t, outsideOnly(0xD000+256*c+(x+512)%512/2, onCondition(api.OpB, c, x)))
		}
	}
	for _, mask := range []int{1, 2, 4, 8} {
		expectWays(t, outsideOnly(0xBFE0+mask, onCondition(api.OpIt, api.AL, mask)))
	}
}

// table is the instructions of chapter 7's rows by their halfwords, as far as Check takes them.
type table struct {
	t  *testing.T
	it bool
	of map[int]api.Ins
}

// add tells that i has the halfword h; no halfword may have two.
func (l table) add(h int, i api.Ins) {
	if isa.Check(i) != api.OK {
		return
	}
	if other, ok := l.of[h]; ok {
		l.t.Fatalf("%#04x is %+v, and %+v", h, other, i)
	}
	l.of[h] = i
}

// addS is likewise of what sets flags outside of blocks alone.
func (l table) addS(h int, i api.Ins) {
	i.S = !l.it
	l.add(h, i)
}

func (l table) addOfLowRegisters() {
	for m := range 8 {
		for d := range 8 {
			for op, h := range map[int]int{api.OpAnd: 0x4000, api.OpEor: 0x4040, api.OpAdc: 0x4140, api.OpSbc: 0x4180, api.OpOrr: 0x4300, api.OpBic: 0x4380, api.OpLsl: 0x4080, api.OpLsr: 0x40C0, api.OpAsr: 0x4100, api.OpRor: 0x41C0} {
				l.addS(h+8*m+d, reg(op, d, d, m))
			}
			l.addS(0x4240+8*m+d, num(api.OpRsb, d, m, 0))
			l.addS(0x43C0+8*m+d, reg(api.OpMvn, d, 0, m))
			l.add(0x4200+8*m+d, reg(api.OpTst, 0, d, m))
			l.add(0x42C0+8*m+d, reg(api.OpCmn, 0, d, m))
			l.add(0x4280+8*m+d, reg(api.OpCmp, 0, d, m))
			if l.it {
				l.add(0x4340+8*m+d, reg(api.OpMul, d, m, d))
			} else {
				l.addS(8*m+d, reg(api.OpMov, d, 0, m))
			}
			for n := range 8 {
				l.addS(0x1800+64*m+8*n+d, reg(api.OpAdd, d, n, m))
				l.addS(0x1A00+64*m+8*n+d, reg(api.OpSub, d, n, m))
				for op, h := range map[int]int{api.OpStr: 0x5000, api.OpStrh: 0x5200, api.OpStrb: 0x5400, api.OpLdr: 0x5800, api.OpLdrh: 0x5A00, api.OpLdrb: 0x5C00} {
					l.add(h+64*m+8*n+d, reg(op, d, n, m))
				}
			}
		}
	}
}

func (l table) addOfAnyRegisters() {
	for m := range 16 {
		l.add(0x4700+8*m, reg(api.OpBx, 0, 0, m))
		for d := range 16 {
			h := 8*m + d/8*128 + d%8
			if m > 7 || d > 7 {
				l.add(0x4500+h, reg(api.OpCmp, 0, d, m))
			}
			l.add(0x4600+h, reg(api.OpMov, d, 0, m))
			l.add(0x4400+h, reg(api.OpAdd, d, d, m))
		}
	}
}

func (l table) addOfNumbers() {
	for d := range 8 {
		for x := range 256 {
			l.add(0x2800+256*d+x, num(api.OpCmp, 0, d, x))
			l.addS(0x2000+256*d+x, num(api.OpMov, d, 0, x))
			l.addS(0x3000+256*d+x, num(api.OpAdd, d, d, x))
			l.addS(0x3800+256*d+x, num(api.OpSub, d, d, x))
			l.add(0x9000+256*d+x, num(api.OpStr, d, api.SP, 4*x))
			l.add(0x9800+256*d+x, num(api.OpLdr, d, api.SP, 4*x))
			l.add(0x4800+256*d+x, num(api.OpLit, d, 0, 4*x))
			l.add(0xA000+256*d+x, num(api.OpAdr, d, 0, 4*x))
		}
		for n := range 8 {
			for x := range 8 {
				l.addS(0x1C00+64*x+8*n+d, num(api.OpAdd, d, n, x))
				l.addS(0x1E00+64*x+8*n+d, num(api.OpSub, d, n, x))
			}
			for x := range 33 {
				l.addS(0x0000+64*(x%32)+8*n+d, num(api.OpLsl, d, n, x))
				l.addS(0x0800+64*(x%32)+8*n+d, num(api.OpLsr, d, n, x))
				l.addS(0x1000+64*(x%32)+8*n+d, num(api.OpAsr, d, n, x))
			}
			for x := range 32 {
				l.add(0x6000+64*x+8*n+d, num(api.OpStr, d, n, 4*x))
				l.add(0x6800+64*x+8*n+d, num(api.OpLdr, d, n, 4*x))
				l.add(0x7000+64*x+8*n+d, num(api.OpStrb, d, n, x))
				l.add(0x7800+64*x+8*n+d, num(api.OpLdrb, d, n, x))
				l.add(0x8000+64*x+8*n+d, num(api.OpStrh, d, n, 2*x))
				l.add(0x8800+64*x+8*n+d, num(api.OpLdrh, d, n, 2*x))
			}
		}
	}
}

func (l table) addOthers() {
	for x := range 256 {
		for n := range 8 {
			l.add(0xC000+256*n+x, many(api.OpStm, n, x))
			l.add(0xC800+256*n+x, many(api.OpLdm, n, x))
		}
		l.add(0xB400+x, many(api.OpPush, 0, x))
		l.add(0xB500+x, many(api.OpPush, 0, 0x4000+x))
		l.add(0xBC00+x, many(api.OpPop, 0, x))
		l.add(0xBD00+x, many(api.OpPop, 0, 0x8000+x))
		l.add(0xBE00+x, num(api.OpBkpt, 0, 0, x))
	}
	for x := -1024; x < 1024; x++ {
		l.add(0xE000+(x+2048)%2048, onCondition(api.OpB, api.AL, 2*x))
	}
	l.add(0xBF00, api.Ins{Op: api.OpNop})
	if l.it {
		return
	}
	for c := range 16 {
		for x := -128; x < 128 && c != api.AL; x++ {
			l.add(0xD000+256*c+(x+256)%256, onCondition(api.OpB, c, 2*x))
		}
		for mask := range 16 {
			l.add(0xBF00+16*c+mask, onCondition(api.OpIt, c, mask))
		}
	}
	for x := range 64 {
		for n := range 8 {
			l.add(0xB100+x/32*512+x%32*8+n, num(api.OpCbz, 0, n, 2*x))
			l.add(0xB900+x/32*512+x%32*8+n, num(api.OpCbnz, 0, n, 2*x))
		}
	}
}

func wanted(t *testing.T, it bool) map[int]api.Ins {
	l := table{t, it, map[int]api.Ins{}}
	l.addOfLowRegisters()
	l.addOfAnyRegisters()
	l.addOfNumbers()
	l.addOthers()
	return l.of
}

func TestDecodeOfEachHalfword(t *testing.T) {
	for _, it := range []bool{false, true} {
		l := wanted(t, it)
		for h := range 1 << 16 {
			expect(t, h, it, l[h])
		}
		if t.Failed() {
			t.FailNow()
		}
	}
}

// Promise 10.2: chapter 7's halfword of an instruction is read as that instruction.
func TestDecodeOfWhatNarrowGives(t *testing.T) {
	for _, it := range []bool{false, true} {
		for h, i := range wanted(t, it) {
			first, ok := narrow.Encode(i, it)
			if !ok {
				t.Errorf("narrow.Encode(%+v, %v): none, where %#04x is one", i, it, h)
			}
			expect(t, first, it, i)
		}
	}
	for _, i := range []api.Ins{
		setting(num(api.OpAdd, 1, 1, 7)), setting(num(api.OpAdd, 1, 1, 8)), setting(reg(api.OpAdd, 1, 1, 2)), reg(api.OpAdd, 1, 1, 2), reg(api.OpCmp, 0, 1, 2), reg(api.OpCmp, 0, 1, 9), setting(num(api.OpLsr, 1, 2, 32)), setting(reg(api.OpMov, 1, 0, 2)),
		onCondition(api.OpB, api.LT, -256), num(api.OpCbz, 0, 1, 126), onCondition(api.OpIt, api.GT, 5), many(api.OpPush, 0, 0x4001), many(api.OpPop, 0, 0x8001), {Op: api.OpNop},
	} {
		h, ok := narrow.Encode(i, false)
		if !ok {
			t.Errorf("narrow.Encode(%+v, false): none", i)
		}
		expect(t, h, false, i)
	}
}

// beyond are numbers whose lowest 16 bits are those of h.
func beyond(h int) []int {
	return []int{h + 1<<16, h + 0xFFFF<<16, h + 1<<31, h + 1<<32, h + 1<<62, h - 1<<16, h - 1<<31, h - 1<<32, h - 1<<62, h + math.MinInt}
}

func TestDecodeTakesTheLowest16Bits(t *testing.T) {
	for _, want := range []ways{
		setsOutside(0x2001, num(api.OpMov, 0, 0, 1)), setsOutside(0x3001, num(api.OpAdd, 0, 0, 1)), outsideOnly(0x0000, setting(reg(api.OpMov, 0, 0, 0))), insideOnly(0x4351, reg(api.OpMul, 1, 2, 1)), outsideOnly(0xD1FE, onCondition(api.OpB, api.NE, -4)), anywhere(0xE7FE, onCondition(api.OpB, api.AL, -4)), outsideOnly(0xB30B, num(api.OpCbz, 0, 3, 66)), anywhere(0xBF00, api.Ins{Op: api.OpNop}), anywhere(0xBD11, many(api.OpPop, 0, 0x8011)), anywhere(0xC20B, many(api.OpStm, 2, 0x0B)),
		{0xDE00, none, none}, {0x4501, none, none}, {0xB400, none, none}, {0xBF10, none, none}, {0xF000, none, none}, {0xFFFF, none, none},
	} {
		expectWays(t, want)
		for _, h := range beyond(want.h) {
			expectWays(t, ways{h, want.out, want.in})
		}
	}
	never(t, -1, math.MaxInt)
	expectWays(t, anywhere(-0x4100, api.Ins{Op: api.OpNop}), outsideOnly(math.MinInt, setting(reg(api.OpMov, 0, 0, 0))))
}

func TestLong(t *testing.T) {
	for h, want := range map[int]bool{
		0x0000: false, 0x0001: false, 0x2001: false, 0x7FFF: false, 0x8000: false, 0xBF00: false, 0xD800: false, 0xDFFF: false, 0xE000: false, 0xE7FE: false, 0xE7FF: false,
		0xE800: true, 0xE801: true, 0xEFFE: true, 0xEFFF: true, 0xF000: true, 0xF001: true, 0xF04F: true, 0xF7FE: true, 0xF7FF: true, 0xF800: true, 0xF801: true, 0xFFFE: true, 0xFFFF: true,
	} {
		for _, x := range append(beyond(h), h) {
			if got := Long(x); got != want {
				t.Errorf("Long(%#x): %v", x, got)
			}
		}
	}
	for h := range 1 << 16 {
		if got := Long(h); got != (h >= 0xE800) {
			t.Errorf("Long(%#x): %v", h, got)
		}
	}
	if !Long(-1) || !Long(math.MaxInt) || Long(math.MinInt) {
		t.Error("Long of numbers at the edges of int")
	}
}

// What begins an instruction of two halfwords is none by itself.
func TestLongHasNoInstructionOfOne(t *testing.T) {
	for h := range 1 << 16 {
		if Long(h) {
			never(t, h)
		}
	}
}
