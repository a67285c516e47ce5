package tests

import (
	"fmt"
	"testing"

	"loop.example/g01308/impl"
)

func TestProductsOfSmallIntegersAreExact(t *testing.T) {
	const most = 6
	for a := -most; a <= most; a++ {
		for b := -most; b <= most; b++ {
			for c := -most; c <= most; c++ {
				for d := -most; d <= most; d++ {
					x, y := complex(float32(a), float32(b)), complex(float32(c), float32(d))
					p := impl.MulComplex(x, y)
					if p != complex(float32(a*c-b*d), float32(a*d+b*c)) {
						t.Fatalf("MulComplex %v %v: got %v", x, y, p)
					}
					if q := impl.QuotientOf(p, y); y != 0 && q != x {
						t.Fatalf("QuotientOf %v %v: got %v, want %v", p, y, q, x)
					}
				}
			}
		}
	}
}

func TestMulComplexExamples(t *testing.T) {
	nan, inf, minus := num(nanBits), num(infBits), num(minusZero)
	one := float32(1)
	near := 1 + float32(0x1p-12)
	for _, c := range []struct{ x, y, want complex64 }{
		{complex(1, 2), complex(3, -1), complex(5, 5)},
		{complex(4095, 4095), complex(4095, 4095), complex(0, 2*4095*4095)},
		// Both products need more than 24 bits: they are not rounded before they are taken together.
		{complex(near, 1), complex(near, 1+0x1p-11), complex(0x1p-24, 2.0009765625)},
		{complex(num(greatest), num(greatest)), complex(2, 2), complex(0, inf)},
		{complex(num(tiniest), 0), complex(0.5, 0), complex(0, 0)},
		{complex(num(tiniest), 0), complex(0.75, 0), complex(num(tiniest), 0)},
		{complex(minus, minus), complex(1, 0), complex(0, minus)},
		{complex(minus, 0), complex(one, minus), complex(0, 0)},
		{complex(inf, 0), complex(1, 0), complex(inf, nan)},
		{complex(nan, 1), complex(1, 1), complex(nan, nan)},
	} {
		wantComplex(t, fmt.Sprintf("MulComplex %v %v", c.x, c.y), impl.MulComplex(c.x, c.y), c.want)
	}
}

func TestScaleComplex(t *testing.T) {
	nan, inf, minus := num(nanBits), num(infBits), num(minusZero)
	for _, c := range []struct {
		x    complex64
		by   float32
		want complex64
	}{
		{complex(1, 2), 0.5, complex(0.5, 1)},
		{complex(1, -2), -3, complex(-3, 6)},
		{complex(0, 1), minus, complex(minus, minus)},
		{complex(inf, 0), 0, complex(nan, 0)},
		{complex(1, 2), nan, complex(nan, nan)},
		{complex(num(greatest), 1), 2, complex(inf, 2)},
		{complex(1, inf), 1, complex(1, inf)},
		{complex(num(tiniest), -num(tiniest)), 0.5, complex(0, minus)},
	} {
		wantComplex(t, fmt.Sprintf("ScaleComplex %v %v", c.x, c.by), impl.ScaleComplex(c.x, c.by), c.want)
	}
}

func TestConjugateOf(t *testing.T) {
	for _, x := range oddComplex() {
		got := impl.ConjugateOf(x)
		wantNumber(t, "ConjugateOf, real part", real(got), real(x))
		want := num(rawBits(imag(x)) ^ 0x80000000)
		wantNumber(t, "ConjugateOf, imaginary part", imag(got), want)
	}
	wantComplex(t, "ConjugateOf a zero", impl.ConjugateOf(0), complex(0, num(minusZero)))
}

func TestPowers(t *testing.T) {
	nan, inf := num(nanBits), num(infBits)
	for _, c := range []struct {
		x           complex64
		power, long float32
	}{
		{complex(3, 4), 25, 5},
		{complex(-3, -4), 25, 5},
		{complex(0, num(minusZero)), 0, 0},
		{complex(1, 0x1p-12), 1, 1},
		{complex(1, 0x1p-11), 1 + 0x1p-22, 1 + 0x1p-23},
		// The power is too great or too small for 32 bits, but its root is not.
		{complex(0x1p127, 0), inf, 0x1p127},
		{complex(3*0x1p100, 4*0x1p100), inf, 5 * 0x1p100},
		{complex(num(greatest), num(greatest)), inf, inf},
		{complex(num(tiniest), 0), 0, num(tiniest)},
		{complex(0, -3*num(tiniest)), 0, 3 * num(tiniest)},
		{complex(inf, 1), inf, inf},
		{complex(1, -inf), inf, inf},
		{complex(inf, nan), nan, nan},
		{complex(1, nan), nan, nan},
	} {
		wantNumber(t, fmt.Sprintf("PowerOf %v", c.x), impl.PowerOf(c.x), c.power)
		wantNumber(t, fmt.Sprintf("LongOf %v", c.x), impl.LongOf(c.x), c.long)
	}
}

func TestQuotientOf(t *testing.T) {
	nan, inf, minus := num(nanBits), num(infBits), num(minusZero)
	for _, c := range []struct{ x, y, want complex64 }{
		{complex(0, 4), complex(2, 0), complex(0, 2)},
		{complex(5, 5), complex(3, -1), complex(1, 2)},
		{complex(1, 0), complex(3, 0), complex(num(0x3eaaaaab), 0)},
		{complex(1, 0), complex(0, 1), complex(0, -1)},
		{complex(1, 0), complex(0, 0), complex(nan, nan)},
		{complex(0, 0), complex(minus, minus), complex(nan, nan)},
		{complex(inf, 1), complex(0, 0), complex(nan, nan)},
		{complex(num(tiniest), 0), complex(num(tiniest), 0), complex(1, 0)},
		{complex(num(greatest), 0), complex(0, num(greatest)), complex(0, -1)},
		{complex(num(greatest), 0), complex(0.5, 0), complex(inf, 0)},
		{complex(minus, minus), complex(1, 0), complex(minus, 0)},
		{complex(1, 1), complex(inf, 0), complex(nan, nan)},
		{complex(1, 1), complex(nan, 0), complex(nan, nan)},
		{complex(nan, 1), complex(1, 1), complex(nan, nan)},
	} {
		wantComplex(t, fmt.Sprintf("QuotientOf %v %v", c.x, c.y), impl.QuotientOf(c.x, c.y), c.want)
	}
}
