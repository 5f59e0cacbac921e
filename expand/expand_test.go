package expand

import (
	"math"
	"testing"
)

// told is what a number tells, bit by bit, as the chapter says it.
func told(imm int) uint32 {
	b, way := imm&0xFF, imm>>8&0xF
	at := func(places ...int) uint32 {
		x := uint32(0)
		for _, p := range places {
			x += uint32(b) << p
		}
		return x
	}
	switch way {
	case 0:
		return at(0)
	case 1:
		return at(0, 16)
	case 2:
		return at(8, 24)
	case 3:
		return at(0, 8, 16, 24)
	}
	x := uint32(b | 128)
	for range imm >> 7 & 31 {
		x = x/2 + x%2<<31
	}
	return x
}

func TestExpand(t *testing.T) {
	for _, c := range []struct {
		imm  int
		want uint32
	}{
		{0, 0}, {1, 1}, {0xAB, 0xAB}, {0xFF, 0xFF},
		{0x1AB, 0x00AB00AB}, {0x101, 0x00010001}, {0x1FF, 0x00FF00FF},
		{0x2AB, 0xAB00AB00}, {0x201, 0x01000100}, {0x2FF, 0xFF00FF00},
		{0x3AB, 0xABABABAB}, {0x301, 0x01010101}, {0x3FF, 0xFFFFFFFF},
		{0x400, 0x80000000}, {0x401, 0x81000000}, {0x47F, 0xFF000000}, {0x480, 0x40000000}, {0x4FF, 0x7F800000},
		{0x87F, 0x00FF0000}, {0xBFF, 0x0001FE00}, {0xC00, 0x00008000}, {0xF7F, 0x3FC}, {0xF80, 0x100}, {0xFFF, 0x1FE},
	} {
		if got := Expand(c.imm); got != c.want {
			t.Errorf("Expand(%#x): %#x, not %#x", c.imm, got, c.want)
		}
	}
}

func TestExpandOfNumbersThatAreNotValid(t *testing.T) {
	for _, imm := range []int{0x100, 0x200, 0x300} {
		if got := Expand(imm); got != 0 {
			t.Errorf("Expand(%#x): %#x, not 0", imm, got)
		}
	}
}

func TestExpandTakesTheLowestTwelveBits(t *testing.T) {
	for _, c := range []struct {
		imm  int
		want uint32
	}{
		{0x1000, 0}, {0x1001, 1}, {0x11AB, 0x00AB00AB}, {0xF400, 0x80000000}, {1<<32 | 0x2AB, 0xAB00AB00}, {1<<40 | 0x87F, 0x00FF0000},
		{-1, 0x1FE}, {-2, 0x1FC}, {-0x1000, 0}, {-0x1000 + 0x3AB, 0xABABABAB}, {math.MaxInt, 0x1FE}, {math.MinInt, 0}, {math.MinInt + 0x400, 0x80000000},
	} {
		if got := Expand(c.imm); got != c.want {
			t.Errorf("Expand(%#x): %#x, not %#x", c.imm, got, c.want)
		}
	}
}

func TestExpandOfEachNumber(t *testing.T) {
	for imm := -0x3000; imm < 0x3000; imm++ {
		if got, want := Expand(imm), told(imm); got != want {
			t.Fatalf("Expand(%#x): %#x, not %#x", imm, got, want)
		}
	}
}

func TestValid(t *testing.T) {
	for _, c := range []struct {
		imm  int
		want bool
	}{
		{0, true}, {1, true}, {0xFF, true}, {0x101, true}, {0x180, true}, {0x1FF, true}, {0x201, true}, {0x2FF, true}, {0x301, true}, {0x3FF, true},
		{0x400, true}, {0x480, true}, {0x500, true}, {0x700, true}, {0xF00, true}, {0xFFF, true},
		{0x100, false}, {0x200, false}, {0x300, false},
		{-1, false}, {-0x1000, false}, {-0xFFF, false}, {0x1000, false}, {0x1001, false}, {0x1400, false}, {1<<32 + 1, false},
		{math.MaxInt, false}, {math.MinInt, false}, {math.MinInt + 1, false},
	} {
		if got := Valid(c.imm); got != c.want {
			t.Errorf("Valid(%#x): %v", c.imm, got)
		}
	}
}

func TestValidOfEachNumber(t *testing.T) {
	for imm := -0x3000; imm < 0x3000; imm++ {
		want := imm >= 0 && imm < 4096 && imm != 256 && imm != 512 && imm != 768
		if got := Valid(imm); got != want {
			t.Errorf("Valid(%#x): %v", imm, got)
		}
	}
}

func TestFind(t *testing.T) {
	for _, c := range []struct {
		x    uint32
		want int
	}{
		{0, 0}, {1, 1}, {0xFF, 0xFF}, {0x100, 0xF80}, {0x1FE, 0xFFF}, {0x3FC, 0xF7F},
		{0x00AB00AB, 0x1AB}, {0x00010001, 0x101}, {0xFF00FF00, 0x2FF}, {0x01000100, 0x201}, {0xABABABAB, 0x3AB}, {0xFFFFFFFF, 0x3FF},
		{0x80000000, 0x400}, {0xFF000000, 0x47F}, {0x40000000, 0x480}, {0x7F800000, 0x4FF}, {0x00FF0000, 0x87F}, {0x00008000, 0xC00},
	} {
		if got, ok := Find(c.x); !ok || got != c.want {
			t.Errorf("Find(%#x): %#x, %v, not %#x", c.x, got, ok, c.want)
		}
	}
}

func TestFindOfWhatNothingTells(t *testing.T) {
	for _, x := range []uint32{
		0x12345678, 0x101, 0x1FF, 0x201, 0x3FD, 0x10001001, 0x01000001, 0x00AB00AC, 0xAB00AC00, 0xABABABAC, 0xABABAB00, 0x00ABABAB, 0xABAB0000, 0xAB0000AB,
		0x80000001, 0xC0000001, 0xF000000F, 0x80800000, 0xFFFFFFFE, 0x7FFFFFFF, 0xFFFFFF00, 0x01020102,
	} {
		if got, ok := Find(x); ok || got != 0 {
			t.Errorf("Find(%#x): %#x, %v, not 0 and false", x, got, ok)
		}
	}
}

// leastOf answers for each word that some valid number tells the least such number.
func leastOf() map[uint32]int {
	least := map[uint32]int{}
	for imm := 4095; imm >= 0; imm-- {
		if imm != 0x100 && imm != 0x200 && imm != 0x300 {
			least[told(imm)] = imm
		}
	}
	return least
}

func TestFindIsTheLeastForEachWordThatIsTold(t *testing.T) {
	for x, want := range leastOf() {
		if got, ok := Find(x); !ok || got != want {
			t.Errorf("Find(%#x): %#x, %v, not %#x", x, got, ok, want)
		}
	}
}

func TestFindTellsTrueOfWhatIsTold(t *testing.T) {
	least := leastOf()
	try := func(x uint32) {
		want, there := least[x]
		if got, ok := Find(x); ok != there || got != want {
			t.Fatalf("Find(%#x): %#x, %v, not %#x, %v", x, got, ok, want, there)
		}
	}
	// Words near to those that are told, and some from all over.
	for x := range least {
		for n := range 32 {
			try(x ^ 1<<n)
		}
		try(x + 1)
		try(x - 1)
		try(^x)
	}
	for x := range uint32(1 << 18) {
		try(x)
		try(x * 0x9E3779B1)
	}
}
