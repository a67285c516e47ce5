package tests

import (
	"fmt"
	"math"
	"testing"

	"loop.example/g01308/impl"
)

func TestBitsOfAllKinds(t *testing.T) {
	for _, b := range oddBits() {
		x, ok := impl.FromBits(int64(b))
		wantBool(t, fmt.Sprintf("FromBits %08x", b), ok, true)
		wantNumber(t, fmt.Sprintf("FromBits %08x", b), x, num(b))
		if got, want := impl.BitsOf(x), int64(rawBits(num(b))); got != want {
			t.Errorf("BitsOf %08x: got %d, want %d", b, got, want)
		}
	}
}

func TestBitsAreReadBack(t *testing.T) {
	for n := int64(0); n <= math.MaxUint32; n += 65521 {
		x, ok := impl.FromBits(n)
		want := n
		if n&0x7f800000 == 0x7f800000 && n&0x7fffff != 0 {
			want = 2143289344
		}
		if got := impl.BitsOf(x); !ok || got != want {
			t.Fatalf("BitsOf FromBits %d: got %d, %v, want %d", n, got, ok, want)
		}
	}
}

func TestFromBitsLimits(t *testing.T) {
	for _, n := range []int64{-1, 4294967296, math.MinInt64, math.MaxInt64, 1<<32 + 0x3f800000} {
		x, ok := impl.FromBits(n)
		wantBool(t, fmt.Sprintf("FromBits %d", n), ok, false)
		wantNumber(t, fmt.Sprintf("FromBits %d", n), x, 0)
	}
	last, ok := impl.FromBits(4294967295)
	wantBool(t, "FromBits of the greatest bits", ok && last != last, true)
	if got := impl.BitsOf(1); got != 1065353216 {
		t.Errorf("BitsOf 1: got %d", got)
	}
}

func TestSameNumberOfAllKinds(t *testing.T) {
	for _, a := range oddNumbers() {
		for _, b := range oddNumbers() {
			want := a == b && math.Signbit(float64(a)) == math.Signbit(float64(b)) || a != a && b != b
			wantBool(t, fmt.Sprintf("SameNumber %08x %08x", rawBits(a), rawBits(b)), impl.SameNumber(a, b), want)
		}
	}
	wantBool(t, "SameNumber of both zeros", impl.SameNumber(0, num(minusZero)), false)
	wantBool(t, "SameNumber of not-a-numbers", impl.SameNumber(num(0x7f800001), num(0xffffffff)), true)
}

func TestSameComplexNeedsBothParts(t *testing.T) {
	minus := num(minusZero)
	nan := num(nanBits)
	for _, c := range []struct {
		a, b complex64
		want bool
	}{
		{complex(1, 2), complex(1, 2), true},
		{complex(1, 2), complex(1, 3), false},
		{complex(1, 2), complex(3, 2), false},
		{complex(0, 0), complex(minus, 0), false},
		{complex(0, 0), complex(0, minus), false},
		{complex(nan, minus), complex(num(0xff800001), minus), true},
		{complex(nan, 0), complex(nan, minus), false},
		{complex(nan, 1), complex(1, nan), false},
	} {
		wantBool(t, fmt.Sprintf("SameComplex %v %v", c.a, c.b), impl.SameComplex(c.a, c.b), c.want)
	}
}

func TestFiniteNumbers(t *testing.T) {
	finite := func(x float32) bool {
		return !math.IsNaN(float64(x)) && math.Abs(float64(x)) <= math.MaxFloat32
	}
	for _, x := range oddNumbers() {
		wantBool(t, fmt.Sprintf("IsFinite %08x", rawBits(x)), impl.IsFinite(x), finite(x))
		for _, y := range oddNumbers() {
			c := complex(x, y)
			wantBool(t, fmt.Sprintf("IsFiniteComplex %v", c), impl.IsFiniteComplex(c), finite(x) && finite(y))
		}
	}
}

func TestNarrowNumber(t *testing.T) {
	for _, c := range []struct {
		x    float64
		bits uint32
	}{
		{0, 0}, {math.Copysign(0, -1), minusZero}, {0.5, 0x3f000000},
		{1 + 0x1p-24, 0x3f800000}, {1 + 0x1p-24 + 0x1p-52, 0x3f800001}, {1 + 0x3p-24, 0x3f800002}, {-1 - 0x3p-24, 0xbf800002},
		{0x1p-149, tiniest}, {0x1p-150, 0}, {0x1.0000000000001p-150, tiniest}, {0x3p-150, 2}, {-0x1p-150, minusZero}, {5e-324, 0},
		{0x1.fffffep127, greatest}, {0x1.fffffefffffffp127, greatest}, {0x1.ffffffp127, infBits}, {-0x1.ffffffp127, minusInfBits},
		{math.MaxFloat64, infBits}, {math.Inf(1), infBits}, {math.Inf(-1), minusInfBits}, {math.NaN(), nanBits},
		{math.Float64frombits(0xfff0000000000001), nanBits},
	} {
		wantNumber(t, fmt.Sprintf("NarrowNumber %v", c.x), impl.NarrowNumber(c.x), num(c.bits))
		both := impl.NarrowComplex(complex(c.x, 2))
		wantComplex(t, fmt.Sprintf("NarrowComplex of the real part %v", c.x), both, complex(num(c.bits), 2))
		both = impl.NarrowComplex(complex(2, c.x))
		wantComplex(t, fmt.Sprintf("NarrowComplex of the imaginary part %v", c.x), both, complex(2, num(c.bits)))
	}
	for _, x := range oddNumbers() {
		wantNumber(t, "NarrowNumber of a 32-bit number", impl.NarrowNumber(float64(x)), x)
	}
}

func TestSubnormalNumbers(t *testing.T) {
	for _, c := range []struct {
		bits, flushed uint32
		want          bool
	}{
		{0, 0, false}, {minusZero, minusZero, false},
		{tiniest, 0, true}, {0x80000001, minusZero, true}, {0x007fffff, 0, true}, {0x807fffff, minusZero, true},
		{0x00800000, 0x00800000, false}, {0x80800000, 0x80800000, false},
		{0x3f800000, 0x3f800000, false}, {infBits, infBits, false}, {minusInfBits, minusInfBits, false},
		{nanBits, nanBits, false}, {0x7f800001, nanBits, false}, {0xff812345, nanBits, false},
	} {
		wantBool(t, fmt.Sprintf("IsSubnormal %08x", c.bits), impl.IsSubnormal(num(c.bits)), c.want)
		wantNumber(t, fmt.Sprintf("FlushNumber %08x", c.bits), impl.FlushNumber(num(c.bits)), num(c.flushed))
	}
}
