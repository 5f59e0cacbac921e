package bits

import (
	"math"
	"math/big"
	"slices"
	"testing"
)

// words are such that a bit at a wrong place is seen.
var words = []uint32{0, 1, 5, 0xABCD, 0x12345678, 0x7FFFFFFF, 0x80000000, 0x80000001, 0xDEADBEEF, 0xFFFFFFFF}

// noFields are hi and lo that do not fall as asked.
var noFields = [][2]int{
	{0, 1}, {3, 5}, {30, 31}, {32, 0}, {32, 32}, {33, 31}, {3, -1}, {-1, -1}, {-1, 0}, {-2, -1}, {31, -1}, {32, -1},
	{math.MaxInt, 0}, {math.MaxInt, math.MinInt}, {math.MinInt, math.MaxInt}, {0, math.MinInt}, {math.MinInt, math.MinInt}, {math.MaxInt, math.MaxInt},
	{1<<32 + 4, 2}, {4, 1<<32 + 2}, {1<<32 + 4, 1<<32 + 2},
}

func bit(x uint32, n int) uint32 { return x / uint32(1<<n) % 2 }

// eachField calls do with all the fields that a word has.
func eachField(do func(hi, lo int)) {
	for hi := range 32 {
		for lo := range hi + 1 {
			do(hi, lo)
		}
	}
}

func TestGet(t *testing.T) {
	for _, c := range []struct {
		x      uint32
		hi, lo int
		want   uint32
	}{
		{0xABCD, 11, 4, 0xBC}, {0xABCD, 15, 0, 0xABCD}, {0xABCD, 3, 0, 0xD}, {0xABCD, 31, 16, 0},
		{0xFFFFFFFF, 31, 0, 0xFFFFFFFF}, {0x80000000, 31, 31, 1}, {0x7FFFFFFF, 31, 31, 0}, {1, 0, 0, 1}, {2, 0, 0, 0},
	} {
		if got := Get(c.x, c.hi, c.lo); got != c.want {
			t.Errorf("Get(%#x, %d, %d): %#x, not %#x", c.x, c.hi, c.lo, got, c.want)
		}
	}
}

func TestGetOfEachField(t *testing.T) {
	for _, x := range words {
		eachField(func(hi, lo int) {
			want := uint32(0)
			for n := hi; n >= lo; n-- {
				want = 2*want + bit(x, n)
			}
			if got := Get(x, hi, lo); got != want {
				t.Errorf("Get(%#x, %d, %d): %#x, not %#x", x, hi, lo, got, want)
			}
		})
	}
}

func TestGetOfNoField(t *testing.T) {
	for _, f := range noFields {
		if got := Get(0xFFFFFFFF, f[0], f[1]); got != 0 {
			t.Errorf("Get(all ones, %d, %d): %#x, not 0", f[0], f[1], got)
		}
	}
}

func TestPut(t *testing.T) {
	for _, c := range []struct {
		x      uint32
		hi, lo int
		v      uint32
		want   uint32
	}{
		{0xFFFF, 11, 4, 0x12, 0xF12F}, {0xFFFF, 11, 4, 0xA12, 0xF12F}, {0, 11, 4, 0xFFFFFFFF, 0xFF0}, {0xFFFFFFFF, 11, 4, 0, 0xFFFFF00F},
		{0, 31, 0, 9, 9}, {0xFFFFFFFF, 31, 0, 0, 0}, {0, 31, 31, 3, 0x80000000}, {0xFFFFFFFF, 31, 31, 2, 0x7FFFFFFF}, {6, 0, 0, 1, 7}, {7, 0, 0, 2, 6},
	} {
		if got := Put(c.x, c.hi, c.lo, c.v); got != c.want {
			t.Errorf("Put(%#x, %d, %d, %#x): %#x, not %#x", c.x, c.hi, c.lo, c.v, got, c.want)
		}
	}
}

func TestPutOfEachField(t *testing.T) {
	for _, x := range words {
		for _, v := range words {
			eachField(func(hi, lo int) {
				got := Put(x, hi, lo, v)
				for n := range 32 {
					want := bit(x, n)
					if n >= lo && n <= hi {
						want = bit(v, n-lo)
					}
					if bit(got, n) != want {
						t.Fatalf("Put(%#x, %d, %d, %#x): %#x: bit %d is not %d", x, hi, lo, v, got, n, want)
					}
				}
			})
		}
	}
}

func TestPutOfNoField(t *testing.T) {
	for _, f := range noFields {
		for _, x := range words {
			if got := Put(x, f[0], f[1], ^x); got != x {
				t.Errorf("Put(%#x, %d, %d, its other bits): %#x, not as it was", x, f[0], f[1], got)
			}
		}
	}
}

func TestSign(t *testing.T) {
	for _, c := range []struct {
		x    uint32
		n    int
		want int
	}{
		{0xFF, 8, -1}, {0x7F, 8, 127}, {0x80, 8, -128}, {0x180, 8, -128}, {0xFFFFFF7F, 8, 127},
		{0, 1, 0}, {1, 1, -1}, {2, 1, 0}, {1, 2, 1}, {2, 2, -2},
		{0x7FFFFFFF, 31, -1}, {0x3FFFFFFF, 31, 0x3FFFFFFF}, {0x7FFFFFFF, 32, 0x7FFFFFFF}, {0x80000000, 32, -0x80000000}, {0xFFFFFFFF, 32, -1},
	} {
		if got := Sign(c.x, c.n); got != c.want {
			t.Errorf("Sign(%#x, %d): %d, not %d", c.x, c.n, got, c.want)
		}
	}
}

func TestSignOfEachWidth(t *testing.T) {
	for _, x := range words {
		for n := 1; n <= 32; n++ {
			want := int64(x) % (1 << n)
			if want >= 1<<(n-1) {
				want -= 1 << n
			}
			if got := Sign(x, n); int64(got) != want {
				t.Errorf("Sign(%#x, %d): %d, not %d", x, n, got, want)
			}
		}
	}
}

func TestSignOfNoWidth(t *testing.T) {
	for _, n := range []int{0, -1, -8, -32, 33, 34, 64, 1<<32 + 8, math.MaxInt, math.MinInt} {
		for _, x := range words {
			if got := Sign(x, n); got != 0 {
				t.Errorf("Sign(%#x, %d): %d, not 0", x, n, got)
			}
		}
	}
}

func TestRor(t *testing.T) {
	for _, c := range []struct {
		x    uint32
		n    int
		want uint32
	}{
		{1, 1, 0x80000000}, {0x80000000, 31, 1}, {0x12345678, 8, 0x78123456}, {0x12345678, 16, 0x56781234}, {5, 0, 5}, {5, 32, 5},
		{1, 33, 0x80000000}, {0x12345678, 40, 0x78123456}, {5, 64, 5},
		{0x80000000, -1, 1}, {0x12345678, -8, 0x34567812}, {5, -32, 5}, {0x80000000, -33, 1}, {1, -31, 2 << 30},
		{5, math.MinInt, 5}, {1, math.MaxInt, 2}, {1, math.MinInt + 1, 0x80000000},
	} {
		if got := Ror(c.x, c.n); got != c.want {
			t.Errorf("Ror(%#x, %d): %#x, not %#x", c.x, c.n, got, c.want)
		}
	}
}

func TestRorBitByBit(t *testing.T) {
	turns := []int{math.MinInt, math.MinInt + 1, math.MinInt + 7, 1<<32 + 3, math.MaxInt - 7, math.MaxInt}
	for n := -100; n <= 100; n++ {
		turns = append(turns, n)
	}
	for _, n := range turns {
		by := new(big.Int).Mod(big.NewInt(int64(n)), big.NewInt(32)).Int64()
		for _, x := range words {
			got := Ror(x, n)
			for to := range 32 {
				if bit(got, to) != bit(x, (to+int(by))%32) {
					t.Fatalf("Ror(%#x, %d): %#x: bit %d", x, n, got, to)
				}
			}
		}
	}
}

func TestPack(t *testing.T) {
	for _, c := range []struct {
		l    []int
		want string
	}{
		{nil, ""}, {[]int{}, ""}, {[]int{0x2001}, "\x01\x20"}, {[]int{0}, "\x00\x00"}, {[]int{0xFFFF}, "\xff\xff"},
		{[]int{0xF04F, 0x0001, 0x4408}, "\x4f\xf0\x01\x00\x08\x44"},
		{[]int{0x10000, 0x12345, 1<<40 + 0x80}, "\x00\x00\x45\x23\x80\x00"},
		{[]int{-1, -2, -0x8000, -0x10000, math.MinInt, math.MaxInt}, "\xff\xff\xfe\xff\x00\x80\x00\x00\x00\x00\xff\xff"},
	} {
		if got := Pack(c.l); got != c.want {
			t.Errorf("Pack(%x): %q, not %q", c.l, got, c.want)
		}
	}
}

func TestUnpack(t *testing.T) {
	for _, c := range []struct {
		s    string
		want []int
	}{
		{"", nil}, {"\x01", []int{1}}, {"\xff", []int{0xFF}}, {"\x00", []int{0}},
		{"\x01\x20", []int{0x2001}}, {"\x00\x00", []int{0}}, {"\xff\xff", []int{0xFFFF}}, {"\x00\x80", []int{0x8000}},
		{"\x01\x20\xff", []int{0x2001, 0xFF}}, {"\x4f\xf0\x01\x00\x00", []int{0xF04F, 1, 0}},
		{"\xe2\x82\xac!", []int{0x82E2, 0x21AC}}, // bytes, not runes
	} {
		if got := Unpack(c.s); !slices.Equal(got, c.want) {
			t.Errorf("Unpack(%q): %x, not %x", c.s, got, c.want)
		}
	}
}

func TestUnpackOfPackHasAllHalfwords(t *testing.T) {
	all := make([]int, 1<<16)
	for h := range all {
		all[h] = h
	}
	s := Pack(all)
	if len(s) != 2*len(all) {
		t.Fatalf("%d bytes", len(s))
	}
	if got := Unpack(s); !slices.Equal(got, all) {
		t.Error("not the halfwords that were packed")
	}
}

// Rule R4: what is handed in is not changed, what lies behind its end included.
func TestPackLeavesItsListAsItIs(t *testing.T) {
	under := []int{0x12345, -1, 7, 8}
	if got := Pack(under[:2]); got != "\x45\x23\xff\xff" {
		t.Errorf("%q", got)
	}
	if !slices.Equal(under, []int{0x12345, -1, 7, 8}) {
		t.Errorf("the list is now %x", under)
	}
}

// Rule R4: answers share no memory.
func TestUnpackAnswersNewMemory(t *testing.T) {
	const s = "\x01\x20\x02"
	a, b := Unpack(s), Unpack(s)
	a[0] = 9
	_ = append(a, 10)
	if want := []int{0x2001, 2}; !slices.Equal(b, want) || !slices.Equal(Unpack(s), want) {
		t.Error("an answer changed with another one")
	}
}
