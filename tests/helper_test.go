package tests

import (
	"math"
	"testing"
)

const (
	nanBits      = 0x7fc00000
	infBits      = 0x7f800000
	minusInfBits = 0xff800000
	minusZero    = 0x80000000
	greatest     = 0x7f7fffff
	tiniest      = 0x00000001
)

// num, rawBits and same do not go through the program, which is tested with them.
func num(bits uint32) float32 {
	return math.Float32frombits(bits)
}

func rawBits(x float32) uint32 {
	if x != x {
		return nanBits
	}
	return math.Float32bits(x)
}

func same(a, b float32) bool {
	return rawBits(a) == rawBits(b)
}

func sameComplex(a, b complex64) bool {
	return same(real(a), real(b)) && same(imag(a), imag(b))
}

// oddBits are bits of numbers of all kinds: zeros, subnormal numbers, limits, infinities and not-a-numbers.
func oddBits() []uint32 {
	return []uint32{
		0, minusZero, tiniest, 0x80000001, 0x007fffff, 0x807fffff, 0x00800000, 0x80800000,
		0x3f800000, 0xbf800000, 0x3e800000, 0xbe800000, 0x3f000000, 0xbf000000, 0x3f400000, 0xbfc00000,
		0x3f7fffff, 0x3f800001, 0x40490fdb, 0xc2f6e979, 0x43480000, 0xc3480000, 0x43480001, 0xc3480001,
		0x597fffff, 0x59800000, 0xd97fffff, 0xd9800000, greatest, 0xff7fffff,
		infBits, minusInfBits, nanBits, 0xffc00000, 0x7f800001, 0xffffffff,
	}
}

func oddNumbers() []float32 {
	var list []float32
	for _, b := range oddBits() {
		list = append(list, num(b))
	}
	return list
}

func oddComplex() []complex64 {
	var list []complex64
	for _, x := range oddNumbers() {
		for _, y := range oddNumbers() {
			list = append(list, complex(x, y))
		}
	}
	return list
}

func wantNumber(t *testing.T, what string, got, want float32) {
	t.Helper()
	if !same(got, want) {
		t.Errorf("%s: got %v (%08x), want %v (%08x)", what, got, rawBits(got), want, rawBits(want))
	}
}

func wantComplex(t *testing.T, what string, got, want complex64) {
	t.Helper()
	if !sameComplex(got, want) {
		t.Errorf("%s: got %v, want %v", what, got, want)
	}
}

func wantBool(t *testing.T, what string, got, want bool) {
	t.Helper()
	if got != want {
		t.Errorf("%s: got %v, want %v", what, got, want)
	}
}

// wantSum takes both results of a function with a number; a function that fails returns +0.
func wantSum(t *testing.T, what string, want float32, wantOK bool) func(float32, bool) {
	return func(got float32, ok bool) {
		t.Helper()
		wantBool(t, what+" succeeds", ok, wantOK)
		wantNumber(t, what, got, want)
	}
}

func wantComplexSum(t *testing.T, what string, want complex64, wantOK bool) func(complex64, bool) {
	return func(got complex64, ok bool) {
		t.Helper()
		wantBool(t, what+" succeeds", ok, wantOK)
		wantComplex(t, what, got, want)
	}
}

func wantText(t *testing.T, what, want string, wantOK bool) func(string, bool) {
	return func(got string, ok bool) {
		t.Helper()
		if ok != wantOK || got != want {
			t.Errorf("%s: got %q, %v, want %q, %v", what, got, ok, want, wantOK)
		}
	}
}

func wantInteger(t *testing.T, what string, want int64, wantOK bool) func(int64, bool) {
	return func(got int64, ok bool) {
		t.Helper()
		if ok != wantOK || got != want {
			t.Errorf("%s: got %d, %v, want %d, %v", what, got, ok, want, wantOK)
		}
	}
}

// repeated returns n items that are all x, with room behind them.
func repeated[T any](x T, n int) []T {
	list := make([]T, n, n+3)
	for i := range list {
		list[i] = x
	}
	return list
}

func ones(n int) []float32 {
	return repeated(float32(1), n)
}

func complexOnes(n int) []complex64 {
	return repeated(complex64(complex(1, -1)), n)
}
