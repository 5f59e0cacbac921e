// Package bits is layer 1, fields of words: see shared/doc/01-bits.md.
package bits

import "strings"

const wordBits = 32

// Get answers the bits of x from hi to lo; 0, if these are no field.
func Get(x uint32, hi, lo int) uint32 {
	if !isField(hi, lo) {
		return 0
	}
	return x >> lo & ones(hi-lo+1)
}

// Put answers x with the lowest bits of v in the field from hi to lo; x as it is, if these are no field.
func Put(x uint32, hi, lo int, v uint32) uint32 {
	if !isField(hi, lo) {
		return x
	}
	field := ones(hi-lo+1) << lo
	return x&^field | v<<lo&field
}

// Sign answers the number that the lowest n bits of x are in two's complement; 0, if n is none of 1 to 32.
func Sign(x uint32, n int) int {
	if n < 1 || n > wordBits {
		return 0
	}
	// The field's own top bit is brought to the word's, so that the way back down is filled with it.
	unused := wordBits - n
	return int(int32(x<<unused) >> unused)
}

// Ror answers x turned right by n bits, or left, if n is below 0.
func Ror(x uint32, n int) uint32 {
	// The lowest five bits of n are n modulo 32 for numbers below 0, too, and none of them has to be negated.
	turns := uint(n) % wordBits
	return x>>turns | x<<(wordBits-turns)
}

// Pack answers the bytes of the halfwords in l.
func Pack(l []int) string {
	return join(l...)
}

// Unpack answers the halfwords whose bytes s has; a last byte by itself is one.
func Unpack(s string) []int {
	l := make([]int, 0, len(s)/2+1)
	for len(s) >= 2 {
		l = append(l, int(s[0])|int(s[1])<<8)
		s = s[2:]
	}
	if len(s) == 1 {
		l = append(l, int(s[0]))
	}
	return l
}

// isField is asked ahead of each shift by hi or lo: one by a number below 0 would panic.
func isField(hi, lo int) bool {
	return wordBits > hi && hi >= lo && lo >= 0
}

// ones holds for the whole word, too: a shift by 32 leaves 0, and 1 less than that wraps to all bits.
func ones(n int) uint32 {
	return uint32(1)<<n - 1
}

// join needs no mask for numbers beyond 16 bits or below 0: a byte takes just the lowest 8 bits of what it is made of.
func join(halfwords ...int) string {
	var b strings.Builder
	b.Grow(2 * len(halfwords))
	for _, h := range halfwords {
		b.WriteByte(byte(h))
		b.WriteByte(byte(h >> 8))
	}
	return b.String()
}
