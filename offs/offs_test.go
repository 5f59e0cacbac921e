package offs

import (
	"math"
	"testing"
)

// edges are the least and the greatest offset of each kind, kind 1 ahead.
var edges = [][2]int{{-256, 254}, {-2048, 2046}, {-1048576, 1048574}, {-16777216, 16777214}, {0, 126}}

// noKinds are numbers of no kind, those among them that a narrower number would take for one.
var noKinds = []int{0, -1, -2, -4, -5, 6, 7, 8, 9, 16, 1<<8 + 1, 1<<16 + 2, 1<<32 + 1, 1<<32 + 4, -1<<32 + 3, math.MaxInt, math.MinInt, math.MinInt + 1}

// place says that bit off of an offset stands at bit n of a halfword: of the first one, or (from 16 on) of the second.
type place struct{ n, off int }

// row answers the places of the bits from lo to hi, which stand from bit n on.
func row(n, hi, lo int) []place {
	var l []place
	for bit := lo; bit <= hi; bit++ {
		l = append(l, place{n + bit - lo, bit})
	}
	return l
}

// placesOf is the chapter's table, bit by bit.
func placesOf(kind int) []place {
	switch kind {
	case 1:
		return row(0, 8, 1)
	case 2:
		return row(0, 11, 1)
	case 3:
		return append(append(row(16, 11, 1), row(0, 17, 12)...), place{10, 20}, place{16 + 13, 18}, place{16 + 11, 19})
	case 4:
		return append(append(row(16, 11, 1), row(0, 21, 12)...), place{10, 24}, place{16 + 13, 23}, place{16 + 11, 22})
	}
	return append(row(3, 5, 1), place{9, 6})
}

// written tells whether a bit that stands at a place is turned over there, by the sign of the offset.
func written(kind int, p place, bit, below0 bool) bool {
	if kind == 4 && p.n > 16 && (p.off == 23 || p.off == 22) {
		return !(bit != below0)
	}
	return bit
}

func isSet(x, n int) bool { return x>>n&1 == 1 }

// put is Put of an offset that fits, as the chapter says it.
func put(kind, off int) (int, int) {
	x := 0
	for _, p := range placesOf(kind) {
		if written(kind, p, isSet(off, p.off), off < 0) {
			x |= 1 << p.n
		}
	}
	return x & 0xFFFF, x >> 16
}

// get is Get of a kind, as the chapter says it.
func get(kind, a, b int) int {
	x, off, below0 := a&0xFFFF|b&0xFFFF<<16, 0, kind < 5
	switch kind {
	case 1:
		below0 = isSet(a, 7)
	case 2, 3, 4:
		below0 = isSet(a, 10)
	}
	for _, p := range placesOf(kind) {
		if written(kind, p, isSet(x, p.n), below0) {
			off += 1 << p.off
		}
	}
	if below0 {
		off += 2 * edges[kind-1][0]
	}
	return off
}

// masks answers the bits of the halfwords in which a kind has pieces.
func masks(kind int) (int, int) {
	x := 0
	for _, p := range placesOf(kind) {
		x |= 1 << p.n
	}
	return x & 0xFFFF, x >> 16
}

// eachOffset calls do with offsets of the kind: with all of them, but of kind 4 with some from all over and with all near to a power of 2.
func eachOffset(kind int, do func(off int)) {
	least, most := edges[kind-1][0], edges[kind-1][1]
	if kind < 4 || kind == 5 {
		for off := least; off <= most; off += 2 {
			do(off)
		}
		return
	}
	for off := least; off <= most; off += 2 * 61 {
		do(off)
	}
	for n := range 25 {
		for off := -70; off <= 70; off += 2 {
			for _, near := range []int{1<<n&^1 + off, -1<<n&^1 + off} {
				if near >= least && near <= most {
					do(near)
				}
			}
		}
	}
}

func TestFits(t *testing.T) {
	for i, e := range edges {
		kind, least, most := i+1, e[0], e[1]
		for _, off := range []int{least, least + 2, 0, 2, 64, 126, most - 2, most} {
			if !Fits(kind, off) {
				t.Errorf("Fits(%d, %d): false", kind, off)
			}
		}
		for _, off := range []int{
			least - 1, least - 2, least - 3, least - 4, most + 1, most + 2, most + 3, most + 4, 2*least - 2, 2*most + 4,
			least + 1, most - 1, 1, 3, 33, 125, -1, -3, -255,
			1 << 25, 1 << 31, 1<<32 + 2, 1 << 62, -1 << 25, -1<<31 - 2, -1 << 32, -1 << 62, math.MaxInt, math.MaxInt - 1, math.MinInt, math.MinInt + 1, math.MinInt + 2,
		} {
			if Fits(kind, off) {
				t.Errorf("Fits(%d, %d): true", kind, off)
			}
		}
	}
}

func TestFitsBelow0(t *testing.T) {
	for kind, want := range map[int]bool{1: true, 2: true, 3: true, 4: true, 5: false} {
		for _, off := range []int{-2, -4, -64, -126, -256} {
			if Fits(kind, off) != want {
				t.Errorf("Fits(%d, %d): not %v", kind, off, want)
			}
		}
	}
}

func TestFitsOfEachNumber(t *testing.T) {
	for i, e := range edges {
		for _, around := range []int{0, e[0], e[1]} {
			for off := around - 5000; off <= around+5000; off++ {
				want := off >= e[0] && off <= e[1] && off/2*2 == off
				if Fits(i+1, off) != want {
					t.Fatalf("Fits(%d, %d): not %v", i+1, off, want)
				}
			}
		}
	}
}

// pairs are offsets, and the halfwords that have their bits, and no other.
var pairs = []struct{ kind, off, a, b int }{
	{1, 0, 0, 0}, {1, 2, 1, 0}, {1, -2, 0xFF, 0}, {1, -4, 254, 0}, {1, 4, 2, 0}, {1, 128, 0x40, 0}, {1, 254, 0x7F, 0}, {1, -256, 0x80, 0},
	{2, 0, 0, 0}, {2, 2, 1, 0}, {2, -2, 0x7FF, 0}, {2, -4, 0x7FE, 0}, {2, 1024, 0x200, 0}, {2, 2046, 0x3FF, 0}, {2, -2048, 0x400, 0},
	{3, 0, 0, 0}, {3, 2, 0, 1}, {3, 300, 0, 0x96}, {3, 2048, 0, 0x400}, {3, 4094, 0, 0x7FF}, {3, 4096, 1, 0}, {3, 1 << 17, 0x20, 0}, {3, 1<<18 - 4096, 0x3F, 0},
	{3, 1 << 18, 0, 0x2000}, {3, 1 << 19, 0, 0x800}, {3, 1<<20 - 2, 0x3F, 0x2FFF}, {3, -1 << 20, 0x400, 0}, {3, -1<<20 + 1<<18, 0x400, 0x2000},
	{3, -1 << 19, 0x400, 0x800}, {3, -1 << 18, 0x400, 0x2800}, {3, -4096, 0x43F, 0x2800}, {3, -2, 0x43F, 0x2FFF}, {3, -4, 0x43F, 0x2FFE},
	{4, 0, 0, 0x2800}, {4, 2, 0, 0x2801}, {4, 300, 0, 0x2896}, {4, 2048, 0, 0x2C00}, {4, 4096, 1, 0x2800}, {4, 1 << 21, 0x200, 0x2800}, {4, 1<<22 - 2, 0x3FF, 0x2FFF},
	{4, 1 << 22, 0, 0x2000}, {4, 1 << 23, 0, 0x800}, {4, 3 << 22, 0, 0}, {4, 1<<24 - 2, 0x3FF, 0x7FF}, {4, -1 << 24, 0x400, 0}, {4, -1<<24 + 1<<22, 0x400, 0x800},
	{4, -1 << 23, 0x400, 0x2000}, {4, -1 << 22, 0x400, 0x2800}, {4, -4096, 0x7FF, 0x2800}, {4, -2, 0x7FF, 0x2FFF}, {4, -4, 0x7FF, 0x2FFE},
	{5, 0, 0, 0}, {5, 2, 8, 0}, {5, 32, 0x80, 0}, {5, 62, 0xF8, 0}, {5, 64, 0x200, 0}, {5, 66, 0x208, 0}, {5, 126, 0x2F8, 0},
}

func TestPut(t *testing.T) {
	for _, c := range pairs {
		if a, b := Put(c.kind, c.off); a != c.a || b != c.b {
			t.Errorf("Put(%d, %d): %#x, %#x, not %#x, %#x", c.kind, c.off, a, b, c.a, c.b)
		}
	}
}

func TestPutOfEachOffset(t *testing.T) {
	for kind := 1; kind <= 5; kind++ {
		eachOffset(kind, func(off int) {
			a, b := Put(kind, off)
			if wantA, wantB := put(kind, off); a != wantA || b != wantB {
				t.Fatalf("Put(%d, %d): %#x, %#x, not %#x, %#x", kind, off, a, b, wantA, wantB)
			}
		})
	}
}

func TestPutOfWhatDoesNotFit(t *testing.T) {
	for i, e := range edges {
		for _, off := range []int{
			e[0] - 1, e[0] - 2, e[0] - 3, e[1] + 1, e[1] + 2, e[1] + 3, e[0] + 1, e[1] - 1, 1, 3, 65, -1, -3,
			1 << 25, 1 << 31, 1<<32 + 2, 1 << 62, -1<<32 + 2, -1 << 62, math.MaxInt, math.MaxInt - 1, math.MinInt, math.MinInt + 2,
		} {
			if a, b := Put(i+1, off); a != 0 || b != 0 {
				t.Errorf("Put(%d, %d): %#x, %#x, not 0, 0", i+1, off, a, b)
			}
		}
	}
	for _, off := range []int{-2, -4, -64, -126, -128, -256} {
		if a, b := Put(5, off); a != 0 || b != 0 {
			t.Errorf("Put(5, %d): %#x, %#x, not 0, 0", off, a, b)
		}
	}
}

func TestGet(t *testing.T) {
	for _, c := range pairs {
		if off := Get(c.kind, c.a, c.b); off != c.off {
			t.Errorf("Get(%d, %#x, %#x): %d, not %d", c.kind, c.a, c.b, off, c.off)
		}
	}
}

func TestGetOfInstructions(t *testing.T) {
	for _, c := range []struct{ kind, a, b, want int }{
		{1, 0xD1FE, 0, -4}, {1, 0xD07F, 0, 254}, {1, 0xDC80, 0xFFFF, -256},
		{2, 0xE7FE, 0, -4}, {2, 0xE3FF, 0, 2046}, {2, 0xE400, 0xFFFF, -2048},
		{3, 0xF000, 0x8096, 300}, {3, 0xF43F, 0xAFFE, -4}, {3, 0xF340, 0x8000, 0}, {3, 0xF3C1, 0xD7FF, 8190},
		{4, 0xF000, 0xF800, 0}, {4, 0xF7FF, 0xFFFE, -4}, {4, 0xF7FF, 0xBFFE, -4}, {4, 0xF000, 0xB800, 0}, {4, 0xF000, 0xD000, 3 << 22},
		{5, 0xB100, 0, 0}, {5, 0xBBFF, 0, 126}, {5, 0xB90F, 0xFFFF, 2},
	} {
		if off := Get(c.kind, c.a, c.b); off != c.want {
			t.Errorf("Get(%d, %#x, %#x): %d, not %d", c.kind, c.a, c.b, off, c.want)
		}
	}
}

func TestGetOfEachPut(t *testing.T) {
	for kind := 1; kind <= 5; kind++ {
		eachOffset(kind, func(off int) {
			a, b := Put(kind, off)
			if got := Get(kind, a, b); got != off {
				t.Fatalf("Get(%d, %#x, %#x): %d, not %d", kind, a, b, got, off)
			}
		})
	}
}

func TestGetOfEachHalfword(t *testing.T) {
	for kind := 1; kind <= 5; kind++ {
		for h := range 1 << 16 {
			for _, other := range []int{0, 0xFFFF, h * 0x9E37 >> 3 & 0xFFFF} {
				for _, c := range [][2]int{{h, other}, {other, h}} {
					if off, want := Get(kind, c[0], c[1]), get(kind, c[0], c[1]); off != want {
						t.Fatalf("Get(%d, %#x, %#x): %d, not %d", kind, c[0], c[1], off, want)
					}
				}
			}
		}
	}
}

func TestGetLooksAtNoOtherBits(t *testing.T) {
	for _, c := range pairs {
		usedA, usedB := masks(c.kind)
		for n := range 63 {
			if off := Get(c.kind, c.a|1<<n&^usedA, c.b|1<<n&^usedB); off != c.off {
				t.Errorf("Get(%d) of %d with bit %d set: %d", c.kind, c.off, n, off)
			}
		}
		if off := Get(c.kind, c.a|0xFFFF&^usedA, c.b|0xFFFF&^usedB); off != c.off {
			t.Errorf("Get(%d) of %d with all other bits set: %d", c.kind, c.off, off)
		}
	}
}

func TestGetOfHalfwordsBeyond16BitsAndBelow0(t *testing.T) {
	for _, c := range pairs {
		for _, more := range []int{1 << 16, 1 << 31, 1 << 32, -1 << 16, -1 << 20, -1 << 32, math.MinInt} {
			if off := Get(c.kind, c.a+more, c.b+more); off != c.off {
				t.Errorf("Get(%d, %d, %d): %d, not %d", c.kind, c.a+more, c.b+more, off, c.off)
			}
		}
	}
	for _, c := range []struct{ kind, a, b, want int }{
		{1, -1, -1, -2}, {2, -1, -1, -2}, {3, -1, -1, -2}, {4, -1, -1, -2}, {5, -1, -1, 126},
		{1, -2, 0, -4}, {2, -2, 0, -4}, {3, -1, -2, -4}, {4, -1, -2, -4}, {5, -9, 0, 124},
		{1, math.MaxInt, 0, -2}, {2, math.MaxInt, 0, -2}, {3, math.MaxInt, math.MaxInt, -2}, {4, math.MaxInt, math.MaxInt, -2}, {5, math.MaxInt, 0, 126},
		{1, math.MinInt, math.MinInt, 0}, {2, math.MinInt, math.MinInt, 0}, {3, math.MinInt, math.MinInt, 0}, {4, math.MinInt, math.MinInt, 3 << 22}, {5, math.MinInt, math.MinInt, 0},
	} {
		if off := Get(c.kind, c.a, c.b); off != c.want {
			t.Errorf("Get(%d, %d, %d): %d, not %d", c.kind, c.a, c.b, off, c.want)
		}
	}
}

func TestOfNoKind(t *testing.T) {
	for _, kind := range noKinds {
		for _, off := range []int{0, 2, 64, 126, -2, -256, 1, 1 << 20, math.MaxInt, math.MinInt} {
			if Fits(kind, off) {
				t.Errorf("Fits(%d, %d): true", kind, off)
			}
			if a, b := Put(kind, off); a != 0 || b != 0 {
				t.Errorf("Put(%d, %d): %#x, %#x, not 0, 0", kind, off, a, b)
			}
		}
		for _, h := range []int{0, 1, 0xFF, 0x2800, 0x7FE, 0xFFFF, -1, 1 << 16, math.MaxInt, math.MinInt} {
			if off := Get(kind, h, h); off != 0 {
				t.Errorf("Get(%d, %#x, %#x): %d, not 0", kind, h, h, off)
			}
		}
	}
}
