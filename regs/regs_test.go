package regs

import (
	"math"
	"slices"
	"strconv"
	"strings"
	"testing"

	"cartouche/api"
)

// all are the registers' names by their numbers.
var all = []string{"r0", "r1", "r2", "r3", "r4", "r5", "r6", "r7", "r8", "r9", "r10", "r11", "r12", "sp", "lr", "pc"}

// noRegs are numbers of no register, those among them that a narrower number would take for one.
var noRegs = []int{-1, -2, -3, -13, -15, -16, -17, 16, 17, 18, 19, 20, 31, 32, 1 << 8, 1<<8 + 13, 1 << 16, 1<<16 + 1, 1 << 32, 1<<32 + 15, -1 << 32, -1<<32 + 13, math.MaxInt, math.MaxInt - 1, math.MinInt, math.MinInt + 1}

// beyond are bits above bit 15, which are of no register; those of numbers below 0 are among them.
var beyond = []int{1 << 16, 1 << 17, 3 << 16, 0x7FFF << 16, 1 << 31, 1 << 32, 0xFFFF << 16, 0xFFFF << 32, math.MinInt, -1 << 16, -1 << 32, math.MaxInt &^ 0xFFFF}

// has tells whether register r is in the list, by a digit of the list's lowest 16 bits.
func has(list, r int) bool {
	digits := strconv.FormatInt(int64(uint16(list))+1<<16, 2)
	return digits[len(digits)-1-r] == '1'
}

// members are the registers of the list.
func members(list int) []int {
	var l []int
	for r := range all {
		if has(list, r) {
			l = append(l, r)
		}
	}
	return l
}

// printed is the list as it is written, register by register: one whose neighbours on both sides are there is left out.
func printed(list int) string {
	in := func(r int) bool { return r >= 0 && r <= 12 && has(list, r) }
	s := ""
	for _, r := range members(list) {
		switch {
		case in(r) && in(r-1) && in(r+1):
		case in(r) && in(r-1):
			s += "-" + all[r]
		case s == "":
			s = all[r]
		default:
			s += ", " + all[r]
		}
	}
	return "{" + s + "}"
}

func TestRegistersAreNumberedAsInApi(t *testing.T) {
	for r, name := range map[int]string{api.SP: "sp", api.LR: "lr", api.PC: "pc"} {
		if Name(r) != name || Find(name) != r {
			t.Errorf("%d: %q; %q: %d", r, Name(r), name, Find(name))
		}
	}
}

func TestName(t *testing.T) {
	for r, want := range all {
		if got := Name(r); got != want {
			t.Errorf("Name(%d): %q, not %q", r, got, want)
		}
	}
}

func TestNameOfNoRegister(t *testing.T) {
	for _, r := range noRegs {
		if got := Name(r); got != "" {
			t.Errorf("Name(%d): %q", r, got)
		}
	}
}

func TestFind(t *testing.T) {
	for want, s := range all {
		if got := Find(s); got != want {
			t.Errorf("Find(%q): %d, not %d", s, got, want)
		}
	}
	for s, want := range map[string]int{"r13": 13, "r14": 14, "r15": 15} {
		if got := Find(s); got != want {
			t.Errorf("Find(%q): %d, not %d", s, got, want)
		}
	}
}

func TestFindOfNoName(t *testing.T) {
	bad := []string{
		"", " ", "  ", "r", "s", "p", "l", "0", "1", "12", "13", "15", "-1", "r-1", "r+1", "r 1", "r1_", "r.1", "ip", "fp", "sl", "sb", "x0", "a1", "v1",
		"r16", "r17", "r18", "r19", "r20", "r30", "r99", "r100", "r256", "r257", "r65536", "r4294967296", "r18446744073709551616",
		"R0", "R12", "R13", "SP", "Sp", "sP", "LR", "PC", "Pc",
		"r00", "r01", "r09", "r012", "r013", "r001", "r0x1", "r1x", "r1e0", "r0,", "r0-", "r0-r1", "r0 r1", "sp lr", "pc r13", "spx", "sp0", "lr ", " lr", "pc\n", "\tpc", "r1\x00", "\x00", "r\x00",
		"\xff", "r\xff", "r\u0661", "\u0440\u0441", "{r0}", "[sp]", "r12sp", "rsp", "splrpc", "-", "{}", ",",
	}
	for _, s := range append(bad, strings.Repeat("r", 1000), strings.Repeat(" ", 1000), names, names[:len(names)-1]) {
		if got := Find(s); got != -1 {
			t.Errorf("Find(%q): %d, not -1", s, got)
		}
	}
	for _, s := range append(all, "r13", "r14", "r15") {
		for _, x := range []string{s + " ", " " + s, s + s, s + "\x00", s + "!", strings.ToUpper(s), s[:1], s[1:]} {
			if got := Find(x); got != -1 {
				t.Errorf("Find(%q): %d, not -1", x, got)
			}
		}
	}
}

func TestCount(t *testing.T) {
	for list := range 1 << 16 {
		if got, want := Count(list), len(members(list)); got != want {
			t.Fatalf("Count(%#x): %d, not %d", list, got, want)
		}
	}
}

func TestAll(t *testing.T) {
	for list := range 1 << 16 {
		if got, want := All(list), members(list); !slices.Equal(got, want) {
			t.Fatalf("All(%#x): %v, not %v", list, got, want)
		}
	}
	if got := All(0xFFFF); !slices.Equal(got, []int{0, 1, 2, 3, 4, 5, 6, 7, 8, 9, 10, 11, 12, 13, 14, 15}) {
		t.Errorf("All(0xFFFF): %v", got)
	}
}

func TestAllIsNewMemory(t *testing.T) {
	a, b := All(0x8005), All(0x8005)
	a[0], a[1], a[2] = 7, 8, 9
	_ = append(a, 10)
	if want := []int{0, 2, 15}; !slices.Equal(b, want) || !slices.Equal(All(0x8005), want) {
		t.Errorf("after a change: %v, %v", b, All(0x8005))
	}
}

func TestLow(t *testing.T) {
	for list := range 1 << 8 {
		if !Low(list) {
			t.Errorf("Low(%#x): false", list)
		}
		for r := 8; r < 16; r++ {
			if Low(list + 1<<r) {
				t.Errorf("Low(%#x): true", list+1<<r)
			}
		}
	}
	for list := 0x100; list < 1<<16; list++ {
		if Low(list) {
			t.Fatalf("Low(%#x): true", list)
		}
	}
}

func TestPrint(t *testing.T) {
	for list, want := range map[int]string{
		0: "{}", 0xFFFF: "{r0-r12, sp, lr, pc}", 0x1FFF: "{r0-r12}", 0xE000: "{sp, lr, pc}", 0x4017: "{r0-r2, r4, lr}",
		// two, three and more at the beginning, in the middle, at the end
		0x0003: "{r0-r1}", 0x0007: "{r0-r2}", 0x00FF: "{r0-r7}",
		0x0060: "{r5-r6}", 0x00E0: "{r5-r7}", 0x03F0: "{r4-r9}", 0x0300: "{r8-r9}", 0x0600: "{r9-r10}",
		0x1800: "{r11-r12}", 0x1C00: "{r10-r12}", 0x1F00: "{r8-r12}",
		// several runs, and registers alone
		0x0005: "{r0, r2}", 0x1555: "{r0, r2, r4, r6, r8, r10, r12}", 0x0AAA: "{r1, r3, r5, r7, r9, r11}", 0x1B6D: "{r0, r2-r3, r5-r6, r8-r9, r11-r12}", 0x1001: "{r0, r12}",
		0x0033: "{r0-r1, r4-r5}", 0x1803: "{r0-r1, r11-r12}", 0x1FBF: "{r0-r5, r7-r12}", 0x1FFE: "{r1-r12}", 0x0FFF: "{r0-r11}",
		// a run up to r12, and sp behind it
		0x3000: "{r12, sp}", 0x3800: "{r11-r12, sp}", 0x3FFF: "{r0-r12, sp}", 0x7800: "{r11-r12, sp, lr}", 0xF000: "{r12, sp, lr, pc}", 0xF800: "{r11-r12, sp, lr, pc}", 0xD800: "{r11-r12, lr, pc}",
		// those that have names
		0x2000: "{sp}", 0x4000: "{lr}", 0x8000: "{pc}", 0x6000: "{sp, lr}", 0xC000: "{lr, pc}", 0xA000: "{sp, pc}", 0x8001: "{r0, pc}", 0x40F0: "{r4-r7, lr}", 0x80F0: "{r4-r7, pc}", 0x2800: "{r11, sp}",
	} {
		if got := Print(list); got != want {
			t.Errorf("Print(%#x): %s, not %s", list, got, want)
		}
	}
	for r, name := range all {
		if got, want := Print(1<<r), "{"+name+"}"; got != want {
			t.Errorf("Print(%#x): %s, not %s", 1<<r, got, want)
		}
	}
}

func TestPrintOfEachList(t *testing.T) {
	for list := range 1 << 16 {
		if got, want := Print(list), printed(list); got != want {
			t.Fatalf("Print(%#x): %s, not %s", list, got, want)
		}
	}
}

func TestBitsBeyondAreNotLookedAt(t *testing.T) {
	for _, list := range []int{0, 1, 3, 0x80, 0xFF, 0x100, 0x1FFF, 0x4017, 0x8000, 0xFF00, 0xFFFF} {
		for _, b := range beyond {
			x := list | b
			if Count(x) != len(members(list)) || Print(x) != printed(list) || !slices.Equal(All(x), members(list)) || Low(x) != (list < 0x100) {
				t.Errorf("%#x: %d, %s, %v, %v", x, Count(x), Print(x), All(x), Low(x))
			}
		}
	}
	for x, want := range map[int]string{-1: "{r0-r12, sp, lr, pc}", -2: "{r1-r12, sp, lr, pc}", -1 << 15: "{pc}", -1 << 16: "{}", math.MinInt: "{}", math.MaxInt: "{r0-r12, sp, lr, pc}"} {
		if got := Print(x); got != want {
			t.Errorf("Print(%d): %s, not %s", x, got, want)
		}
	}
	if Count(-1) != 16 || Count(-1<<15) != 1 || len(All(-1)) != 16 || Low(-1) || !Low(-1<<16) || !Low(math.MinInt) || Low(math.MaxInt) {
		t.Error("lists below 0")
	}
}
