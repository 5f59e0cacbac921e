package conds

import (
	"math"
	"slices"
	"strings"
	"testing"

	"cartouche/api"
)

// all are the conditions by api's numbers, and their names; AL's is not written.
var all = []struct {
	c    int
	name string
}{
	{api.EQ, "eq"}, {api.NE, "ne"}, {api.CS, "cs"}, {api.CC, "cc"}, {api.MI, "mi"}, {api.PL, "pl"}, {api.VS, "vs"}, {api.VC, "vc"},
	{api.HI, "hi"}, {api.LS, "ls"}, {api.GE, "ge"}, {api.LT, "lt"}, {api.GT, "gt"}, {api.LE, "le"}, {api.AL, ""},
}

// noConds are numbers of no condition, those among them that a narrower number would take for one.
var noConds = []int{-1, -2, -3, -14, -15, -16, 15, 16, 17, 30, 31, 32, 64, 1 << 8, 1<<8 + 14, 1 << 16, 1 << 32, 1<<32 + 1, -1 << 32, -1<<32 + 14, math.MaxInt, math.MaxInt - 1, math.MinInt, math.MinInt + 1}

// noMasks are numbers of no mask.
var noMasks = []int{0, -1, -2, -4, -8, -12, -15, -16, 16, 17, 20, 24, 31, 1<<8 + 8, 1<<32 + 8, -1<<32 + 8, math.MaxInt, math.MinInt, math.MinInt + 8}

// eachFlags calls do with all sixteen settings of the flags.
func eachFlags(do func(f api.Flags)) {
	for n := range 16 {
		do(api.Flags{N: n&8 != 0, Z: n&4 != 0, C: n&2 != 0, V: n&1 != 0})
	}
}

// eachList calls do with all lists of up to most entries.
func eachList(most int, do func(l []bool)) {
	for n := range most + 1 {
		for x := range 1 << n {
			l := make([]bool, n)
			for i := range l {
				l[i] = x>>i&1 == 1
			}
			do(l)
		}
	}
}

// other is the other one of a pair, as its name says it.
func other(c int) int {
	if c%2 == 0 {
		return c + 1
	}
	return c - 1
}

// block is what a block of c and l has: its conditions, and its mask written out in four digits; no mask, if there is no such block.
func block(c int, l []bool) ([]int, string) {
	conds, digits := []int{c}, ""
	for _, same := range l {
		next := c
		if !same {
			next = other(c)
		}
		conds = append(conds, next)
		digits += string(rune('0' + next%2))
	}
	if len(l) > 3 || c == api.AL && slices.Contains(l, false) {
		return nil, ""
	}
	return conds, (digits + "1000")[:4]
}

// number reads a mask's digits; 0 of none.
func number(digits string) int {
	n := 0
	for _, d := range digits {
		n = 2*n + int(d-'0')
	}
	return n
}

func TestConditionsAreNumberedAsInApi(t *testing.T) {
	own := []int{eq, ne, cs, cc, mi, pl, vs, vc, hi, ls, ge, lt, gt, le, al}
	if len(own) != len(all) {
		t.Fatal(len(own))
	}
	for i, x := range all {
		if own[i] != x.c || x.c != i {
			t.Errorf("%q: %d, not %d", x.name, own[i], x.c)
		}
	}
}

func TestHolds(t *testing.T) {
	// The settings under which each one holds, N Z C V from bit 3 to bit 0, setting 15 ahead.
	for c, want := range []string{
		api.EQ: "1111000011110000", api.NE: "0000111100001111", api.CS: "1100110011001100", api.CC: "0011001100110011",
		api.MI: "1111111100000000", api.PL: "0000000011111111", api.VS: "1010101010101010", api.VC: "0101010101010101",
		api.HI: "0000110000001100", api.LS: "1111001111110011", api.GE: "1010101001010101", api.LT: "0101010110101010",
		api.GT: "0000101000000101", api.LE: "1111010111111010", api.AL: "1111111111111111",
	} {
		got := ""
		eachFlags(func(f api.Flags) {
			if Holds(c, f) {
				got = "1" + got
			} else {
				got = "0" + got
			}
		})
		if got != want {
			t.Errorf("Holds(%d): %s, not %s", c, got, want)
		}
	}
}

func TestHoldsAsTheChapterSays(t *testing.T) {
	eachFlags(func(f api.Flags) {
		for c, want := range map[int]bool{
			api.EQ: f.Z, api.CS: f.C, api.MI: f.N, api.VS: f.V, api.HI: f.C && !f.Z, api.GE: f.N == f.V, api.GT: !f.Z && f.N == f.V,
		} {
			if Holds(c, f) != want {
				t.Errorf("Holds(%d, %v): not %v", c, f, want)
			}
			if Holds(c+1, f) == want {
				t.Errorf("Holds(%d, %v): not %v", c+1, f, !want)
			}
		}
	})
}

func TestHoldsOfNoCondition(t *testing.T) {
	for _, c := range append(noConds, api.AL) {
		eachFlags(func(f api.Flags) {
			if !Holds(c, f) {
				t.Errorf("Holds(%d, %v): false", c, f)
			}
		})
	}
}

func TestTurn(t *testing.T) {
	for _, p := range [][2]int{{api.EQ, api.NE}, {api.CS, api.CC}, {api.MI, api.PL}, {api.VS, api.VC}, {api.HI, api.LS}, {api.GE, api.LT}, {api.GT, api.LE}, {api.AL, api.AL}} {
		if Turn(p[0]) != p[1] || Turn(p[1]) != p[0] {
			t.Errorf("Turn(%d), Turn(%d): %d, %d", p[0], p[1], Turn(p[0]), Turn(p[1]))
		}
	}
}

func TestTurnOfNoCondition(t *testing.T) {
	for _, c := range noConds {
		if got := Turn(c); got != api.AL {
			t.Errorf("Turn(%d): %d, not %d", c, got, api.AL)
		}
	}
}

func TestName(t *testing.T) {
	for _, x := range all {
		if got := Name(x.c); got != x.name {
			t.Errorf("Name(%d): %q, not %q", x.c, got, x.name)
		}
	}
}

func TestNameOfNoCondition(t *testing.T) {
	for _, c := range noConds {
		if got := Name(c); got != "" {
			t.Errorf("Name(%d): %q", c, got)
		}
	}
}

func TestFind(t *testing.T) {
	for _, x := range all {
		if got := Find(x.name); got != x.c {
			t.Errorf("Find(%q): %d, not %d", x.name, got, x.c)
		}
	}
	for s, want := range map[string]int{"hs": api.CS, "lo": api.CC, "al": api.AL, "": api.AL} {
		if got := Find(s); got != want {
			t.Errorf("Find(%q): %d, not %d", s, got, want)
		}
	}
}

func TestFindOfNoName(t *testing.T) {
	wrong := []string{
		"EQ", "Eq", "eQ", "HS", "Lo", "AL", "Al", "aL", "LE", "e", "q", "a", "h", "eqq", "eqne", " eq", "eq ", "eq\n", "\x00eq", "eq\x00", " ", "\x00",
		"xx", "nv", "hl", "sh", "ol", "la", "qe", "ee", "0", "14", "-1", "cond", "é", "\xff", "\xff\xfe", strings.Repeat("eq", 1000),
	}
	for _, x := range all[:14] {
		wrong = append(wrong, strings.ToUpper(x.name), x.name[:1], x.name[1:], x.name+"s", "b"+x.name)
	}
	for _, s := range wrong {
		if got := Find(s); got != -1 {
			t.Errorf("Find(%q): %d, not -1", s, got)
		}
	}
}

func TestFindOfEachTwoLetters(t *testing.T) {
	want := map[string]int{"hs": api.CS, "lo": api.CC, "al": api.AL}
	for _, x := range all[:14] {
		want[x.name] = x.c
	}
	for a := 'a'; a <= 'z'; a++ {
		for b := 'a'; b <= 'z'; b++ {
			s := string(a) + string(b)
			c, there := want[s]
			if !there {
				c = -1
			}
			if got := Find(s); got != c {
				t.Errorf("Find(%q): %d, not %d", s, got, c)
			}
		}
	}
}

// blocksOf are blocks, and what they have, written out.
var blocksOf = []struct {
	c     int
	l     []bool
	mask  int
	conds []int
}{
	{api.EQ, nil, 8, []int{0}}, {api.NE, []bool{}, 8, []int{1}}, {api.LE, nil, 8, []int{13}}, {api.AL, nil, 8, []int{14}},
	{api.EQ, []bool{true}, 4, []int{0, 0}}, {api.EQ, []bool{false}, 12, []int{0, 1}}, {api.NE, []bool{true}, 12, []int{1, 1}}, {api.NE, []bool{false}, 4, []int{1, 0}},
	{api.EQ, []bool{true, false}, 6, []int{0, 0, 1}}, {api.EQ, []bool{false, true}, 10, []int{0, 1, 0}}, {api.GT, []bool{false, false}, 14, []int{12, 13, 13}},
	{api.LE, []bool{true, false}, 10, []int{13, 13, 12}}, {api.LE, []bool{false, false}, 2, []int{13, 12, 12}},
	{api.HI, []bool{true, true, true}, 1, []int{8, 8, 8, 8}}, {api.HI, []bool{false, false, false}, 15, []int{8, 9, 9, 9}}, {api.HI, []bool{true, false, true}, 5, []int{8, 8, 9, 8}},
	{api.LS, []bool{true, true, true}, 15, []int{9, 9, 9, 9}}, {api.LS, []bool{false, false, false}, 1, []int{9, 8, 8, 8}}, {api.LS, []bool{false, false, true}, 3, []int{9, 8, 8, 9}},
	{api.AL, []bool{true}, 4, []int{14, 14}}, {api.AL, []bool{true, true}, 2, []int{14, 14, 14}}, {api.AL, []bool{true, true, true}, 1, []int{14, 14, 14, 14}},
}

func TestMask(t *testing.T) {
	for _, x := range blocksOf {
		if got := Mask(x.c, x.l); got != x.mask {
			t.Errorf("Mask(%d, %v): %d, not %d", x.c, x.l, got, x.mask)
		}
	}
}

func TestMaskOfEachBlock(t *testing.T) {
	for _, x := range all {
		eachList(5, func(l []bool) {
			_, digits := block(x.c, l)
			if got, want := Mask(x.c, l), number(digits); got != want {
				t.Errorf("Mask(%d, %v): %d, not %d", x.c, l, got, want)
			}
		})
	}
}

func TestMaskOfNoBlock(t *testing.T) {
	for _, c := range noConds {
		eachList(4, func(l []bool) {
			if got := Mask(c, l); got != 0 {
				t.Errorf("Mask(%d, %v): %d, not 0", c, l, got)
			}
		})
	}
	for _, x := range all {
		for _, n := range []int{4, 5, 8, 31, 32, 63, 64, 65, 1000} {
			if got := Mask(x.c, slices.Repeat([]bool{true}, n)); got != 0 {
				t.Errorf("Mask(%d, %d of the same): %d, not 0", x.c, n, got)
			}
			if got := Mask(x.c, make([]bool, n)); got != 0 {
				t.Errorf("Mask(%d, %d of the other): %d, not 0", x.c, n, got)
			}
		}
	}
	for _, l := range [][]bool{{false}, {false, true}, {true, false}, {false, true, true}, {true, false, true}, {true, true, false}, {false, false, false}} {
		if got := Mask(api.AL, l); got != 0 {
			t.Errorf("Mask(AL, %v): %d, not 0", l, got)
		}
	}
}

// Rule R4: what is handed in is not changed, what lies behind its end included.
func TestMaskLeavesItsListAsItIs(t *testing.T) {
	under := []bool{false, true, false, true}
	if got := Mask(api.EQ, under[:2]); got != 10 {
		t.Errorf("%d", got)
	}
	if !slices.Equal(under, []bool{false, true, false, true}) {
		t.Errorf("the list is now %v", under)
	}
}

func TestConds(t *testing.T) {
	for _, x := range blocksOf {
		if got := Conds(x.c, x.mask); !slices.Equal(got, x.conds) {
			t.Errorf("Conds(%d, %d): %v, not %v", x.c, x.mask, got, x.conds)
		}
	}
}

func TestCondsOfEachMask(t *testing.T) {
	for _, x := range all {
		want := map[int][]int{}
		eachList(3, func(l []bool) {
			if conds, digits := block(x.c, l); digits != "" {
				want[number(digits)] = conds
			}
		})
		if n := len(want); n != 15 && (x.c != api.AL || n != 4) {
			t.Fatalf("%d masks of %d", n, x.c)
		}
		for mask := -20; mask < 40; mask++ {
			if got := Conds(x.c, mask); !slices.Equal(got, want[mask]) {
				t.Errorf("Conds(%d, %d): %v, not %v", x.c, mask, got, want[mask])
			}
		}
	}
}

func TestCondsOfNoBlock(t *testing.T) {
	for _, x := range all {
		for _, mask := range noMasks {
			if got := Conds(x.c, mask); len(got) != 0 {
				t.Errorf("Conds(%d, %d): %v", x.c, mask, got)
			}
		}
	}
	for _, c := range noConds {
		for mask := range 17 {
			if got := Conds(c, mask); len(got) != 0 {
				t.Errorf("Conds(%d, %d): %v", c, mask, got)
			}
		}
		for _, mask := range noMasks {
			if got := Conds(c, mask); len(got) != 0 {
				t.Errorf("Conds(%d, %d): %v", c, mask, got)
			}
		}
	}
	for _, mask := range []int{3, 5, 6, 7, 9, 10, 11, 12, 13, 14, 15} {
		if got := Conds(api.AL, mask); len(got) != 0 {
			t.Errorf("Conds(AL, %d): %v", mask, got)
		}
	}
}

// Rule R4: answers share no memory.
func TestCondsAnswersNewMemory(t *testing.T) {
	a, b := Conds(api.EQ, 6), Conds(api.EQ, 6)
	a[0], a[2] = 9, 9
	_ = append(a, 10)
	if want := []int{0, 0, 1}; !slices.Equal(b, want) || !slices.Equal(Conds(api.EQ, 6), want) {
		t.Error("an answer changed with another one")
	}
}

func TestNext(t *testing.T) {
	for it, want := range map[int]int{
		0: 0, 0x08: 0, 0x18: 0, 0xE8: 0, 0xF8: 0, 0x10: 0, 0xF0: 0,
		0x04: 0x08, 0x0C: 0x18, 0x14: 0x08, 0x1C: 0x18, 0x1A: 0x14, 0x06: 0x0C, 0x0A: 0x14, 0x01: 0x02, 0x0F: 0x1E, 0x1F: 0x1E, 0x1E: 0x1C, 0x11: 0x02,
		0xD5: 0xCA, 0xCA: 0xD4, 0xD4: 0xC8, 0xE1: 0xE2, 0xE2: 0xE4, 0xE4: 0xE8, 0xFF: 0xFE, 0xEC: 0xF8, 0xFC: 0xF8,
	} {
		if got := Next(it); got != want {
			t.Errorf("Next(%#x): %#x, not %#x", it, got, want)
		}
	}
}

func TestNextOfEachState(t *testing.T) {
	for state := range 256 {
		want := 0
		if state%8 != 0 {
			want = state/32*32 + state%16*2
		}
		for _, more := range []int{0, 1 << 8, 3 << 8, 1 << 31, 1 << 32, 1 << 62, -1 << 8, -1 << 32, math.MinInt} {
			if got := Next(state + more); got != want {
				t.Errorf("Next(%#x): %#x, not %#x", state+more, got, want)
			}
		}
	}
	for it, want := range map[int]int{-1: 0xFE, -2: 0xFC, -4: 0xF8, -8: 0, -16: 0, -15: 0xE2, math.MaxInt: 0xFE, math.MaxInt - 7: 0, math.MinInt: 0, math.MinInt + 1: 2} {
		if got := Next(it); got != want {
			t.Errorf("Next(%#x): %#x, not %#x", it, got, want)
		}
	}
}

func TestCond(t *testing.T) {
	for it, want := range map[int]int{
		0: api.AL, 0x10: api.AL, 0xD0: api.AL, 0xF0: api.AL, 0x100: api.AL, -16: api.AL, math.MinInt: api.AL,
		0x08: api.EQ, 0x01: api.EQ, 0x1A: api.NE, 0x18: api.NE, 0x1F: api.NE, 0x24: api.CS, 0x88: api.HI, 0xD2: api.LE, 0xE8: api.AL, 0xF8: 15,
		0x118: api.NE, 0xF24: api.CS, -1: 15, -8: 15, -0x80 + 1: api.HI, math.MaxInt: 15, math.MinInt + 0x14: api.NE,
	} {
		if got := Cond(it); got != want {
			t.Errorf("Cond(%#x): %d, not %d", it, got, want)
		}
	}
}

func TestCondOfEachState(t *testing.T) {
	for state := range 256 {
		want := state / 16
		if state%16 == 0 {
			want = 14
		}
		for _, more := range []int{0, 1 << 8, 3 << 8, 1 << 31, 1 << 32, 1 << 62, -1 << 8, -1 << 32, math.MinInt} {
			if got := Cond(state + more); got != want {
				t.Errorf("Cond(%#x): %d, not %d", state+more, got, want)
			}
		}
	}
}

// The state of a block goes through the block's conditions, and is 0 behind its last.
func TestStateGoesThroughEachBlock(t *testing.T) {
	for _, x := range all {
		eachList(3, func(l []bool) {
			conds, digits := block(x.c, l)
			if digits == "" {
				return
			}
			it := x.c<<4 | number(digits)
			for i, want := range conds {
				if got := Cond(it); got != want {
					t.Errorf("%d, %v: %d at %d, not %d", x.c, l, got, i, want)
				}
				it = Next(it)
			}
			if it != 0 || Cond(it) != api.AL {
				t.Errorf("%d, %v: the state behind it is %#x", x.c, l, it)
			}
		})
	}
}
