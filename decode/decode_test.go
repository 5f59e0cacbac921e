package decode

import (
	"math"
	"slices"
	"testing"

	"cartouche/api"
	"cartouche/conds"
	"cartouche/encode"
	"cartouche/short"
	"cartouche/tall"
)

// none is told where halfwords are of no instruction.
var none = api.Ins{}

var nop = api.Ins{Op: api.OpNop}

func reg(op, d, n, m int) api.Ins {
	return api.Ins{Op: op, Rd: d, Rn: n, Rm: m, Mode: api.ModeReg}
}

func num(op, d, n, x int) api.Ins {
	return api.Ins{Op: op, Rd: d, Rn: n, Imm: x, Mode: api.ModeImm}
}

func many(op, n, list int) api.Ins {
	return api.Ins{Op: op, Rn: n, List: list}
}

func onCond(op, c, x int) api.Ins {
	return api.Ins{Op: op, Cond: c, Imm: x, Mode: api.ModeImm}
}

func mov(d, x int) api.Ins { return num(api.OpMov, d, 0, x) }

// setting is i, telling that it sets flags.
func setting(i api.Ins) api.Ins {
	i.S = true
	return i
}

func movs(d, x int) api.Ins { return setting(mov(d, x)) }

// expect holds Decode against an instruction and its size, or an error.
func expect(t *testing.T, l []int, it bool, want api.Ins, size int, wantErr api.Errno) {
	t.Helper()
	if i, n, err := Decode(l, it); i != want || n != size || err != wantErr {
		t.Errorf("Decode(%#04x, %v): %+v, %d, %d, not %+v, %d, %d", l, it, i, n, err, want, size, wantErr)
	}
}

// refused holds Decode against an error, in blocks and out of them.
func refused(t *testing.T, err api.Errno, lists ...[]int) {
	t.Helper()
	for _, l := range lists {
		expect(t, l, false, none, 0, err)
		expect(t, l, true, none, 0, err)
	}
}

// ways is the halfwords of one instruction, and what is read of them out of blocks and in them.
type ways struct {
	l       []int
	out, in api.Ins
}

// expectWays holds Decode against each of l by itself, and with others behind.
func expectWays(t *testing.T, l ...ways) {
	t.Helper()
	for _, x := range l {
		for _, others := range [][]int{nil, {0x2001}, {0xDE00}, {0xF000}, {0xFFFF, 0xFFFF}, {0, 0, 0, 0}, {-1, math.MaxInt, math.MinInt}} {
			whole := slices.Concat(x.l, others)
			x.expectOf(t, whole, false, x.out)
			x.expectOf(t, whole, true, x.in)
		}
	}
}

func (x ways) expectOf(t *testing.T, whole []int, it bool, want api.Ins) {
	t.Helper()
	if want == none {
		expect(t, whole, it, none, 0, api.ErrUndef)
		return
	}
	expect(t, whole, it, want, len(x.l), api.OK)
}

func h(l ...int) []int { return l }

// setsOutside is what sets flags outside of blocks alone.
func setsOutside(l []int, i api.Ins) ways { return ways{l, setting(i), i} }

// anywhere is what is the same in blocks and out of them.
func anywhere(l []int, i api.Ins) ways { return ways{l, i, i} }

func outsideOnly(l []int, i api.Ins) ways { return ways{l, i, none} }

func insideOnly(l []int, i api.Ins) ways { return ways{l, none, i} }

// samples are instructions of each shape of both layers below.
func samples() []ways {
	return []ways{
		setsOutside(h(0x2001), mov(0, 1)), setsOutside(h(0x3001), num(api.OpAdd, 0, 0, 1)), setsOutside(h(0x4011), reg(api.OpAnd, 1, 1, 2)), setsOutside(h(0x18D1), reg(api.OpAdd, 1, 2, 3)), setsOutside(h(0x0800), num(api.OpLsr, 0, 0, 32)), setsOutside(h(0x4251), num(api.OpRsb, 1, 2, 0)),
		anywhere(h(0x4611), reg(api.OpMov, 1, 0, 2)), anywhere(h(0x4411), reg(api.OpAdd, 1, 1, 2)), anywhere(h(0x4211), reg(api.OpTst, 0, 1, 2)), anywhere(h(0x4541), reg(api.OpCmp, 0, 1, 8)), anywhere(h(0x29C8), num(api.OpCmp, 0, 1, 200)),
		anywhere(h(0x68D1), num(api.OpLdr, 1, 2, 12)), anywhere(h(0x9103), num(api.OpStr, 1, 13, 12)), anywhere(h(0x50D1), reg(api.OpStr, 1, 2, 3)), anywhere(h(0xC20B), many(api.OpStm, 2, 0x0B)), anywhere(h(0xB511), many(api.OpPush, 0, 0x4011)), anywhere(h(0xBD11), many(api.OpPop, 0, 0x8011)),
		anywhere(h(0xE7FE), onCond(api.OpB, api.AL, -4)), anywhere(h(0xE000), onCond(api.OpB, api.AL, 0)), anywhere(h(0x4770), reg(api.OpBx, 0, 0, 14)), anywhere(h(0x4903), num(api.OpLit, 1, 0, 12)), anywhere(h(0xA103), num(api.OpAdr, 1, 0, 12)), anywhere(h(0xBF00), nop), anywhere(h(0xBE07), num(api.OpBkpt, 0, 0, 7)),
		insideOnly(h(0x4351), reg(api.OpMul, 1, 2, 1)), outsideOnly(h(0x0011), setting(reg(api.OpMov, 1, 0, 2))), outsideOnly(h(0x0000), setting(reg(api.OpMov, 0, 0, 0))), outsideOnly(h(0xD1FE), onCond(api.OpB, api.NE, -4)), outsideOnly(h(0xB30B), num(api.OpCbz, 0, 3, 66)), outsideOnly(h(0xBB0B), num(api.OpCbnz, 0, 3, 66)), outsideOnly(h(0xBF18), onCond(api.OpIt, api.NE, 8)), outsideOnly(h(0xBFE1), onCond(api.OpIt, api.AL, 1)),
		anywhere(h(0xF04F, 0x0001), mov(0, 1)), anywhere(h(0xF05F, 0x0001), movs(0, 1)), anywhere(h(0xF102, 0x11AB), num(api.OpAdd, 1, 2, 0xAB00AB)), anywhere(h(0xF202, 0x1101), num(api.OpAdd, 1, 2, 257)), anywhere(h(0xEA32, 0x0103), setting(reg(api.OpBic, 1, 2, 3))), anywhere(h(0xF1B3, 0x0F05), num(api.OpCmp, 0, 3, 5)),
		anywhere(h(0xEA4F, 0x11F2), num(api.OpRor, 1, 2, 7)), anywhere(h(0xFA42, 0xF103), reg(api.OpAsr, 1, 2, 3)), anywhere(h(0xFB02, 0xF103), reg(api.OpMul, 1, 2, 3)), anywhere(h(0xFBB2, 0xF1F3), reg(api.OpUdiv, 1, 2, 3)), anywhere(h(0xF64A, 0x31CD), num(api.OpMovw, 1, 0, 0xABCD)), anywhere(h(0xF6CA, 0x31CD), num(api.OpMovt, 1, 0, 0xABCD)),
		anywhere(h(0xF8D2, 0x1345), num(api.OpLdr, 1, 2, 0x345)), anywhere(h(0xF802, 0x1003), reg(api.OpStrb, 1, 2, 3)), anywhere(h(0xE8B9, 0x0103), many(api.OpLdm, 9, 0x0103)), anywhere(h(0xE92D, 0x4100), many(api.OpPush, 0, 0x4100)), anywhere(h(0xE8BD, 0x8100), many(api.OpPop, 0, 0x8100)),
		outsideOnly(h(0xF47F, 0xAFFE), onCond(api.OpB, api.NE, -4)), anywhere(h(0xF7FF, 0xBFFE), onCond(api.OpB, api.AL, -4)), anywhere(h(0xF7FF, 0xFFFE), num(api.OpBl, 0, 0, -4)), anywhere(h(0xF000, 0xF800), num(api.OpBl, 0, 0, 0)),
		anywhere(h(0xF8DF, 0x1008), num(api.OpLit, 1, 0, 8)), anywhere(h(0xF6AF, 0x0103), num(api.OpAdr, 1, 0, -0x803)), anywhere(h(0xF3AF, 0x8000), nop), anywhere(h(0xE8D1, 0xF002), reg(api.OpTbb, 0, 1, 2)),
	}
}

func TestDecodeOfEachShape(t *testing.T) {
	expectWays(t, samples()...)
}

func TestDecodeOfTooFew(t *testing.T) {
	refused(t, api.ErrSize, nil, []int{}, h(0x2001)[:0], h(0xF04F, 0x0001)[1:1])
	// A second halfword would make no instruction of the last ones, but it is missing first of all.
	refused(t, api.ErrSize, h(0xE800), h(0xE8D1), h(0xEA4F), h(0xF000), h(0xF04F), h(0xF7FF), h(0xF800), h(0xFFFE), h(0xFFFF), h(-1))
}

// What lies behind a list's end is no halfword of it.
func TestDecodeEndsWithTheList(t *testing.T) {
	l := h(0xF04F, 0x0001, 0x2002)
	refused(t, api.ErrSize, l[:0], l[:1])
	expect(t, l[:2], false, mov(0, 1), 2, api.OK)
	expect(t, l[1:2], false, setting(reg(api.OpMov, 1, 0, 0)), 1, api.OK)
	expect(t, l[2:], false, movs(0, 2), 1, api.OK)
}

func TestDecodeOfNoInstruction(t *testing.T) {
	for _, first := range []int{0xDE00, 0xDF00, 0x4501, 0x4780, 0x5600, 0xA800, 0xB000, 0xB400, 0xB600, 0xBC00, 0xBF10, 0xBFF8, 0xC003, 0x4687} {
		refused(t, api.ErrUndef, h(first), h(first, 0x2001), h(first, 0xF000, 0xF800), h(first, 0xDE00))
	}
	for _, l := range [][]int{h(0xFFFF, 0xFFFF), h(0xE800, 0x0000), h(0xF000, 0xC000), h(0xF04F, 0xC001), h(0xF04F, 0x0D01), h(0xF04F, 0x1000), h(0xF3AF, 0x8001), h(0xF85F, 0x1000), h(0xE92D, 0x0001), h(0xE8D1, 0xF00D), h(0xFFFF, 0x2001)} {
		refused(t, api.ErrUndef, l, slices.Concat(l, h(0x2001)), slices.Concat(l, l))
	}
	// One halfword of two would be an instruction by itself.
	refused(t, api.ErrUndef, h(0xDE00, 0x0001), h(0xFFFF, 0xBF00))
}

// What only stands outside of blocks is no instruction within one, with halfwords behind it or without.
func TestDecodeInAndOutOfBlocks(t *testing.T) {
	for c := api.EQ; c < api.AL; c++ {
		expectWays(t, outsideOnly(h(0xD0FE+256*c), onCond(api.OpB, c, -4)), outsideOnly(h(0xF03F+64*c+0x400, 0xAFFE), onCond(api.OpB, c, -4)), outsideOnly(h(0xBF08+16*c), onCond(api.OpIt, c, 8)))
	}
	for d := range 8 {
		expectWays(t, setsOutside(h(0x2000+256*d+d), mov(d, d)), insideOnly(h(0x4340+9*d), reg(api.OpMul, d, d, d)), outsideOnly(h(0x0000+9*d), setting(reg(api.OpMov, d, 0, d))), outsideOnly(h(0xB100+d), num(api.OpCbz, 0, d, 0)), anywhere(h(0xF04F, 257*d), mov(d, d)), anywhere(h(0xF05F, 257*d), movs(d, d)))
	}
}

// beyond are numbers whose lowest 16 bits are those of n.
func beyond(n int) []int {
	return []int{n + 1<<16, n + 0xFFFF<<16, n + 1<<31, n + 1<<32, n + 1<<62, n - 1<<16, n - 1<<31, n - 1<<32, n - 1<<62, n + math.MinInt}
}

func TestDecodeTakesTheLowest16Bits(t *testing.T) {
	none := []ways{{h(0xDE00), none, none}, {h(0xFFFF, 0xFFFF), none, none}, {h(0xF04F, 0xC001), none, none}}
	for _, x := range slices.Concat(samples(), none) {
		for at := range x.l {
			for _, n := range beyond(x.l[at]) {
				other := ways{slices.Clone(x.l), x.out, x.in}
				other.l[at] = n
				expectWays(t, other)
			}
		}
	}
	for _, n := range beyond(0xF000) {
		refused(t, api.ErrSize, h(n))
	}
	refused(t, api.ErrSize, h(-1), h(math.MaxInt))
	refused(t, api.ErrUndef, h(-1, -1), h(math.MaxInt, math.MinInt), h(-0x2200))
	expectWays(t, anywhere(h(-0x4100), nop), anywhere(h(-0x0C51, -0x8000), nop))
}

// expectOfLayers holds Decode of l against what the layers below read.
func expectOfLayers(t *testing.T, l []int, it bool) {
	t.Helper()
	i, size, ok := none, 1, false
	if short.Long(l[0]) {
		size = 2
		i, ok = tall.Decode(l[0], l[1], it)
	} else {
		i, ok = short.Decode(l[0], it)
	}
	if ok {
		expect(t, l, it, i, size, api.OK)
	} else {
		expect(t, l, it, none, 0, api.ErrUndef)
	}
}

func TestDecodeOfEachFirstHalfword(t *testing.T) {
	seconds := []int{0x0000, 0x0001, 0x0305, 0x0F05, 0x1008, 0x2001, 0x8000, 0xAFFE, 0xBFFE, 0xF103, 0xF1F3, 0xF800, 0xFFFF}
	for first := range 1 << 16 {
		for _, it := range []bool{false, true} {
			if short.Long(first) {
				expect(t, h(first), it, none, 0, api.ErrSize)
			} else {
				expectOfLayers(t, h(first), it)
			}
			for _, second := range seconds {
				expectOfLayers(t, h(first, second), it)
			}
		}
		if t.Failed() {
			t.FailNow()
		}
	}
}

// Promise T3: what is read of an instruction's halfwords is the instruction.
func TestDecodeOfWhatEncodeGives(t *testing.T) {
	for _, x := range samples() {
		for _, it := range []bool{false, true} {
			i := x.out
			if it {
				i = x.in
			}
			for _, wide := range []bool{false, true} {
				if l, err := encode.Encode(i, wide, it); err == api.OK {
					expect(t, l, it, i, len(l), api.OK)
				}
			}
			if l, err := encode.Best(i, it); err == api.OK {
				expect(t, slices.Concat(l, l), it, i, len(l), api.OK)
			} else if i != none {
				t.Errorf("encode.Best(%+v, %v): %d", i, it, err)
			}
		}
	}
}

// placed is an instruction of a stream, and how many halfwords it has.
type placed struct {
	i    api.Ins
	size int
}

// expectStream holds Stream against instructions, each of which stands where the one ahead ends.
func expectStream(t *testing.T, l []int, want ...placed) {
	t.Helper()
	var all []api.Ins
	var places []int
	at := 0
	for _, x := range want {
		all = append(all, x.i)
		places = append(places, at)
		at += x.size
	}
	if got, gotPlaces := Stream(l); !slices.Equal(got, all) || !slices.Equal(gotPlaces, places) {
		t.Errorf("Stream(%#04x): %+v, %v, not %+v, %v", l, got, gotPlaces, all, places)
	}
}

func narrow(i api.Ins) placed { return placed{i, 1} }
func wide(i api.Ins) placed   { return placed{i, 2} }

func it(c, mask int) placed { return narrow(onCond(api.OpIt, c, mask)) }

func TestStreamOfTheExample(t *testing.T) {
	expectStream(t, h(0xBF08, 0x2001), it(api.EQ, 8), narrow(mov(0, 1)))
}

func TestStreamOfOneInstruction(t *testing.T) {
	for _, x := range samples() {
		if x.out == none {
			expectStream(t, x.l)
			continue
		}
		expectStream(t, x.l, placed{x.out, len(x.l)})
		expectStream(t, slices.Concat(h(0xBF00), x.l, h(0xBF00)), narrow(nop), placed{x.out, len(x.l)}, narrow(nop))
	}
}

func TestStreamOfNothing(t *testing.T) {
	expectStream(t, nil)
	expectStream(t, []int{})
	expectStream(t, h(0x2001, 0x2001)[:0])
	expectStream(t, h(0xDE00))
	expectStream(t, h(0xDE00, 0x2001, 0x2001))
	expectStream(t, h(0xF000))
	expectStream(t, h(0xFFFF, 0xFFFF, 0x2001))
	expectStream(t, h(0x4351, 0x2001))
}

// Out of blocks each instruction is read by itself.
func TestStreamOutOfBlocks(t *testing.T) {
	expectStream(t, h(0x2001, 0xF04F, 0x0102, 0x0011, 0xF000, 0xF800, 0xF3AF, 0x8000, 0xB30B, 0xD1FE, 0x2003), narrow(movs(0, 1)), wide(mov(1, 2)), narrow(setting(reg(api.OpMov, 1, 0, 2))), wide(num(api.OpBl, 0, 0, 0)), wide(nop), narrow(num(api.OpCbz, 0, 3, 66)), narrow(onCond(api.OpB, api.NE, -4)), narrow(movs(0, 3)))
	// A second halfword is no instruction, even if it could be one.
	expectStream(t, h(0xF04F, 0x0001, 0xF8DF, 0x2001, 0x2001), wide(mov(0, 1)), wide(num(api.OpLit, 2, 0, 1)), narrow(movs(0, 1)))
}

// Flags are set by what stands behind a block, by nothing in it, however many it has.
func TestStreamOfBlocks(t *testing.T) {
	expectStream(t, h(0xBF18, 0x2001, 0x2002), it(api.NE, 8), narrow(mov(0, 1)), narrow(movs(0, 2)))
	expectStream(t, h(0xBF0C, 0x2001, 0x2002, 0x2003), it(api.EQ, 12), narrow(mov(0, 1)), narrow(mov(0, 2)), narrow(movs(0, 3)))
	expectStream(t, h(0xBF06, 0x2001, 0x2002, 0x2003, 0x2004), it(api.EQ, 6), narrow(mov(0, 1)), narrow(mov(0, 2)), narrow(mov(0, 3)), narrow(movs(0, 4)))
	expectStream(t, h(0xBFD5, 0x2001, 0x2002, 0x2003, 0x2004, 0x2005), it(api.LE, 5), narrow(mov(0, 1)), narrow(mov(0, 2)), narrow(mov(0, 3)), narrow(mov(0, 4)), narrow(movs(0, 5)))
	// An instruction of two halfwords is one of the block's.
	expectStream(t, h(0xBF04, 0xF04F, 0x0001, 0x2002, 0x2003), it(api.EQ, 4), wide(mov(0, 1)), narrow(mov(0, 2)), narrow(movs(0, 3)))
	expectStream(t, h(0xBF04, 0xF05F, 0x0001, 0xF05F, 0x0002, 0x2003), it(api.EQ, 4), wide(movs(0, 1)), wide(movs(0, 2)), narrow(movs(0, 3)))
	// So is one that does nothing, or has no flags to set.
	expectStream(t, h(0xBF02, 0xBF00, 0xBE07, 0x4770, 0x2001), it(api.EQ, 2), narrow(nop), narrow(num(api.OpBkpt, 0, 0, 7)), narrow(reg(api.OpBx, 0, 0, 14)), narrow(movs(0, 1)))
	// A block need not come to its end.
	expectStream(t, h(0xBF01), it(api.EQ, 1))
	expectStream(t, h(0xBF01, 0x2001), it(api.EQ, 1), narrow(mov(0, 1)))
}

func TestStreamOfEachBlock(t *testing.T) {
	for c := api.EQ; c <= api.AL; c++ {
		for mask := range 16 {
			l := h(0xBF00 + 16*c + mask)
			for d := range 8 {
				l = append(l, 0x2000+256*d+d)
			}
			if mask == 0 && c != api.EQ || mask != 0 && len(conds.Conds(c, mask)) == 0 {
				expectStream(t, l)
				continue
			}
			want := []placed{it(c, mask)}
			if mask == 0 {
				want = []placed{narrow(nop)}
			}
			for d := range 8 {
				i := mov(d, d)
				i.S = d >= len(conds.Conds(c, mask))
				want = append(want, narrow(i))
			}
			expectStream(t, l, want...)
		}
	}
}

func TestStreamOfBlocksWithAL(t *testing.T) {
	expectStream(t, h(0xBFE8, 0x2001, 0x2002), it(api.AL, 8), narrow(mov(0, 1)), narrow(movs(0, 2)))
	expectStream(t, h(0xBFE4, 0x2001, 0x2002, 0x2003), it(api.AL, 4), narrow(mov(0, 1)), narrow(mov(0, 2)), narrow(movs(0, 3)))
	expectStream(t, h(0xBFE2, 0x2001, 0x2002, 0x2003, 0x2004), it(api.AL, 2), narrow(mov(0, 1)), narrow(mov(0, 2)), narrow(mov(0, 3)), narrow(movs(0, 4)))
	expectStream(t, h(0xBFE1, 0x4351, 0x4351, 0x4351, 0x4351, 0x4351), it(api.AL, 1), narrow(reg(api.OpMul, 1, 2, 1)), narrow(reg(api.OpMul, 1, 2, 1)), narrow(reg(api.OpMul, 1, 2, 1)), narrow(reg(api.OpMul, 1, 2, 1)))
	expectStream(t, h(0xBFEC, 0x2001))
}

func TestStreamOfBlocksBehindBlocks(t *testing.T) {
	expectStream(t, h(0xBF08, 0x2001, 0xBF18, 0x2002, 0xBF0C, 0x2003, 0x2004, 0xBFE8, 0x2005, 0x2006), it(api.EQ, 8), narrow(mov(0, 1)), it(api.NE, 8), narrow(mov(0, 2)), it(api.EQ, 12), narrow(mov(0, 3)), narrow(mov(0, 4)), it(api.AL, 8), narrow(mov(0, 5)), narrow(movs(0, 6)))
	expectStream(t, h(0x2001, 0xBF01, 0x2002, 0xF04F, 0x0003, 0x2004, 0xF04F, 0x0005, 0xBF08, 0xF04F, 0x0006, 0x2007), narrow(movs(0, 1)), it(api.EQ, 1), narrow(mov(0, 2)), wide(mov(0, 3)), narrow(mov(0, 4)), wide(mov(0, 5)), it(api.EQ, 8), wide(mov(0, 6)), narrow(movs(0, 7)))
}

func TestStreamOfItWithinABlock(t *testing.T) {
	expectStream(t, h(0xBF08, 0xBF08, 0x2001), it(api.EQ, 8))
	expectStream(t, h(0xBF0C, 0x2001, 0xBF18, 0x2002), it(api.EQ, 12), narrow(mov(0, 1)))
	expectStream(t, h(0xBFE1, 0x2001, 0x2002, 0x2003, 0xBFE8, 0x2004), it(api.AL, 1), narrow(mov(0, 1)), narrow(mov(0, 2)), narrow(mov(0, 3)))
	// A hint with a mask of 0 is a nop, which is one of the block's.
	expectStream(t, h(0xBF08, 0xBF00, 0xBF08, 0x2001), it(api.EQ, 8), narrow(nop), it(api.EQ, 8), narrow(mov(0, 1)))
}

func TestStreamOfBranchesAndBlocks(t *testing.T) {
	b := onCond(api.OpB, api.AL, -4)
	expectStream(t, h(0xBF08, 0xE7FE, 0x2001), it(api.EQ, 8), narrow(b), narrow(movs(0, 1)))
	expectStream(t, h(0xBF04, 0x2001, 0xF7FF, 0xBFFE, 0x2002), it(api.EQ, 4), narrow(mov(0, 1)), wide(b), narrow(movs(0, 2)))
	// One that has others of the block behind it is moved on from, too.
	expectStream(t, h(0xBF04, 0xE7FE, 0x2001, 0x2002), it(api.EQ, 4), narrow(b), narrow(mov(0, 1)), narrow(movs(0, 2)))
	expectStream(t, h(0xBF04, 0xF7FF, 0xFFFE, 0x2001, 0x2002), it(api.EQ, 4), wide(num(api.OpBl, 0, 0, -4)), narrow(mov(0, 1)), narrow(movs(0, 2)))
	expectStream(t, h(0xBF08, 0xE8D1, 0xF002, 0x2001), it(api.EQ, 8), wide(reg(api.OpTbb, 0, 1, 2)), narrow(movs(0, 1)))
	for _, l := range [][]int{h(0xD1FE), h(0xF47F, 0xAFFE), h(0xB30B), h(0xBB0B)} {
		i, size, _ := Decode(l, false)
		expectStream(t, slices.Concat(h(0xBF08), l, h(0x2001)), it(api.EQ, 8))
		expectStream(t, slices.Concat(h(0xBF08, 0x2001), l, h(0x2002)), it(api.EQ, 8), narrow(mov(0, 1)), placed{i, size}, narrow(movs(0, 2)))
		expectStream(t, slices.Concat(h(0xBF04, 0x2001), l, h(0x2002)), it(api.EQ, 4), narrow(mov(0, 1)))
	}
}

func TestStreamUpToWhatIsRefused(t *testing.T) {
	expectStream(t, h(0x2001, 0xF000), narrow(movs(0, 1)))
	expectStream(t, h(0xF04F, 0x0001, 0xF04F), wide(mov(0, 1)))
	expectStream(t, h(0xBF08, 0xF04F), it(api.EQ, 8))
	expectStream(t, h(0xF04F, 0x0001, 0x0002)[:1])
	expectStream(t, h(0x2001, 0xF04F, 0x0001)[:2], narrow(movs(0, 1)))
	expectStream(t, h(0x2001, 0xDE00, 0x2002), narrow(movs(0, 1)))
	expectStream(t, h(0xF04F, 0x0001, 0xFFFF, 0xFFFF, 0x2002), wide(mov(0, 1)))
	expectStream(t, h(0x2001, 0x2002, 0xF04F, 0x0003, 0xDE00, 0xF04F, 0x0004, 0x2005), narrow(movs(0, 1)), narrow(movs(0, 2)), wide(mov(0, 3)))
	expectStream(t, h(0xBF02, 0x2001, 0xDE00, 0x2002, 0x2003), it(api.EQ, 2), narrow(mov(0, 1)))
	// What is an instruction in a block alone, or out of blocks alone.
	expectStream(t, h(0xBF08, 0x4351, 0x4351, 0x2001), it(api.EQ, 8), narrow(reg(api.OpMul, 1, 2, 1)))
	expectStream(t, h(0x0011, 0xBF08, 0x0011, 0x2001), narrow(setting(reg(api.OpMov, 1, 0, 2))), it(api.EQ, 8))
}

func TestStreamTakesTheLowest16Bits(t *testing.T) {
	l := h(0xBF14, 0x2001, 0xF04F, 0x0102, 0x2003, 0xE7FE, 0xDE00, 0x2004)
	want := []placed{it(api.NE, 4), narrow(mov(0, 1)), wide(mov(1, 2)), narrow(movs(0, 3)), narrow(onCond(api.OpB, api.AL, -4))}
	expectStream(t, l, want...)
	for at := range l {
		for _, n := range beyond(l[at]) {
			other := slices.Clone(l)
			other[at] = n
			expectStream(t, other, want...)
		}
	}
	expectStream(t, h(-1, -1))
	expectStream(t, h(-0x40F8, -0xDFFF, -1), it(api.EQ, 8), narrow(mov(0, 1)))
	expectStream(t, h(math.MinInt, math.MaxInt, 0), narrow(setting(reg(api.OpMov, 0, 0, 0))))
}

// Promise T3: a stream has just the instructions that were encoded, each in its block or in none.
func TestStreamOfWhatEncodeGives(t *testing.T) {
	var l []int
	var want []placed
	add := func(i api.Ins, isWide, within bool) {
		if halfwords, err := encode.Encode(i, isWide, within); err == api.OK {
			l = append(l, halfwords...)
			want = append(want, placed{i, len(halfwords)})
		}
	}
	for _, x := range samples() {
		for _, isWide := range []bool{false, true} {
			for c := api.EQ; c <= api.AL; c++ {
				if x.out.Op == api.OpIt {
					continue
				}
				add(x.out, isWide, false)
				if _, err := encode.Encode(x.in, isWide, true); err == api.OK {
					add(onCond(api.OpIt, c, conds.Mask(c, []bool{true, true})), false, false)
					for range 3 {
						add(x.in, isWide, true)
					}
				}
			}
		}
	}
	expectStream(t, l, want...)
	if len(want) < 1000 {
		t.Errorf("only %d instructions", len(want))
	}
}

func TestStreamOfManyHalfwords(t *testing.T) {
	const many = 1 << 18
	l := make([]int, 0, many)
	var want []placed
	for len(l) < many {
		l = append(l, 0xBF08, 0x2001, 0xF04F, 0x0002)
		want = append(want, it(api.EQ, 8), narrow(mov(0, 1)), wide(mov(0, 2)))
	}
	expectStream(t, l, want...)
}

// What one call ends in is nothing to the next one.
func TestStreamBeginsInNoBlock(t *testing.T) {
	for range 3 {
		expectStream(t, h(0xBF01, 0x2001), it(api.EQ, 1), narrow(mov(0, 1)))
		expectStream(t, h(0x2001), narrow(movs(0, 1)))
	}
}

func TestListsAreLeftAsTheyAre(t *testing.T) {
	l := h(0xBF14, 0x12001, 0xF04F, 0x0102, -1, 0x2003, 7)
	was := slices.Clone(l)
	Decode(l, false)
	Decode(l[2:3], true)
	Decode(l[2:4], true)
	Stream(l)
	Stream(l[:3])
	Stream(l[:4])
	if !slices.Equal(l, was) {
		t.Errorf("%#x, where %#x was handed in", l, was)
	}
}

func TestStreamAnswersNewMemory(t *testing.T) {
	l := h(0x2001, 0x2002, 0x2003)
	all, places := Stream(l)
	others, otherPlaces := Stream(l)
	clear(l)
	clear(all[:cap(all)])
	clear(places[:cap(places)])
	if !slices.Equal(others, []api.Ins{movs(0, 1), movs(0, 2), movs(0, 3)}) || !slices.Equal(otherPlaces, h(0, 1, 2)) {
		t.Errorf("%+v, %v, when other lists are cleared", others, otherPlaces)
	}
}
