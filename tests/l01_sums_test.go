package tests

import (
	"testing"

	"loop.example/g01308/impl"
)

func TestSumNumbers(t *testing.T) {
	nan, inf, minus := num(nanBits), num(infBits), num(minusZero)
	max := num(greatest)
	for _, c := range []struct {
		what string
		list []float32
		want float32
		ok   bool
	}{
		{"nil", nil, 0, true},
		{"empty", []float32{}, 0, true},
		{"three", []float32{1, 2, 3.5}, 6.5, true},
		{"-0", []float32{minus}, 0, true},
		{"rounded one by one", []float32{0x1p24, 1, 1}, 0x1p24, true},
		{"from left to right", []float32{1, 1, 0x1p24}, 0x1p24 + 2, true},
		{"great and small", []float32{1, 0x1p30, -0x1p30}, 0, true},
		{"subnormal", []float32{num(tiniest), num(tiniest)}, num(2), true},
		{"too great on the way", []float32{max, max, -max}, inf, true},
		{"both infinities", []float32{inf, -inf, 1}, nan, true},
		{"not-a-number", []float32{1, num(0xff800001), 2}, nan, true},
		{"at most", ones(256), 256, true},
		{"too many", ones(257), 0, false},
	} {
		wantSum(t, "SumNumbers "+c.what, c.want, c.ok)(impl.SumNumbers(c.list))
	}
}

func TestDotNumbers(t *testing.T) {
	nan, inf, minus := num(nanBits), num(infBits), num(minusZero)
	near := 1 + float32(0x1p-12)
	for _, c := range []struct {
		what string
		a, b []float32
		want float32
		ok   bool
	}{
		{"nil", nil, []float32{}, 0, true},
		{"two", []float32{1, 2}, []float32{3, 4}, 11, true},
		{"-0", []float32{minus}, []float32{1}, 0, true},
		// The product needs 25 bits: it is rounded before it is added.
		{"rounded products", []float32{-1, near}, []float32{1 + 0x1p-11, near}, 0, true},
		{"from left to right", []float32{1, 1, 0x1p12}, []float32{1, 1, 0x1p12}, 0x1p24 + 2, true},
		{"rounded one by one", []float32{0x1p12, 1, 1}, []float32{0x1p12, 1, 1}, 0x1p24, true},
		{"too small products", []float32{num(tiniest), num(tiniest)}, []float32{0.5, 0.5}, 0, true},
		{"too great products", []float32{num(greatest), -1}, []float32{2, 1}, inf, true},
		{"infinity and zero", []float32{inf}, []float32{0}, nan, true},
		{"not-a-number", []float32{1, 2}, []float32{num(0x7f800001), 2}, nan, true},
		{"at most", ones(256), ones(256), 256, true},
		{"too many", ones(257), ones(257), 0, false},
		{"shorter", []float32{1}, nil, 0, false},
		{"longer", []float32{1}, []float32{1, 2}, 0, false},
		{"one too long", ones(256), ones(257), 0, false},
	} {
		wantSum(t, "DotNumbers "+c.what, c.want, c.ok)(impl.DotNumbers(c.a, c.b))
	}
}

func TestSumComplex(t *testing.T) {
	nan, inf, minus := num(nanBits), num(infBits), num(minusZero)
	for _, c := range []struct {
		what string
		list []complex64
		want complex64
		ok   bool
	}{
		{"nil", nil, 0, true},
		{"two", []complex64{1, complex(2, 3)}, complex(3, 3), true},
		{"-0", []complex64{complex(minus, minus)}, 0, true},
		{"rounded one by one", []complex64{complex(0x1p24, 1), complex(1, 1), complex(1, 0x1p24)}, complex(0x1p24, 0x1p24+2), true},
		{"infinities", []complex64{complex(inf, inf), complex(1, -inf)}, complex(inf, nan), true},
		{"not-a-number", []complex64{complex(nan, 1), complex(1, 1)}, complex(nan, 2), true},
		{"at most", complexOnes(256), complex(256, -256), true},
		{"too many", complexOnes(257), 0, false},
	} {
		wantComplexSum(t, "SumComplex "+c.what, c.want, c.ok)(impl.SumComplex(c.list))
	}
}

func TestDotComplex(t *testing.T) {
	nan, inf := num(nanBits), num(infBits)
	near := 1 + float32(0x1p-12)
	for _, c := range []struct {
		what      string
		a, b      []complex64
		dot, conj complex64
		ok        bool
	}{
		{"nil", nil, []complex64{}, 0, 0, true},
		{"i and i", []complex64{1i}, []complex64{1i}, -1, 1, true},
		{"two", []complex64{complex(1, 2), complex(0, 1)}, []complex64{complex(3, -1), complex(2, 0)}, complex(5, 7), complex(1, -9), true},
		// The product needs 25 bits: it is narrowed before it is added.
		{"narrowed products", []complex64{-1, complex(near, 0)}, []complex64{1 + 0x1p-11, complex(near, 0)}, 0, 0, true},
		{"from left to right", []complex64{1, 1, 0x1p12}, []complex64{1, 1, 0x1p12}, 0x1p24 + 2, 0x1p24 + 2, true},
		{"rounded one by one", []complex64{0x1p12, 1, 1}, []complex64{0x1p12, 1, 1}, 0x1p24, 0x1p24, true},
		{"infinity", []complex64{complex(inf, 0)}, []complex64{1}, complex(inf, nan), complex(inf, nan), true},
		{"not-a-number", []complex64{complex(nan, 1)}, []complex64{1}, complex(nan, nan), complex(nan, nan), true},
		{"at most", complexOnes(256), complexOnes(256), complex(0, -512), 512, true},
		{"too many", complexOnes(257), complexOnes(257), 0, 0, false},
		{"shorter", []complex64{1}, nil, 0, 0, false},
		{"longer", []complex64{1}, []complex64{1, 2}, 0, 0, false},
		{"one too long", complexOnes(256), complexOnes(257), 0, 0, false},
	} {
		wantComplexSum(t, "DotComplex "+c.what, c.dot, c.ok)(impl.DotComplex(c.a, c.b))
		wantComplexSum(t, "DotConjugate "+c.what, c.conj, c.ok)(impl.DotConjugate(c.a, c.b))
	}
}

func TestDotsOfSmallIntegersAreExact(t *testing.T) {
	for n := range 256 {
		a, b := make([]float32, n), make([]float32, n)
		x, y := make([]complex64, n), make([]complex64, n)
		dot, re, im := 0, 0, 0
		for i := range n {
			p, q := i%13-6, i%7-3
			a[i], b[i] = float32(p), float32(q)
			x[i], y[i] = complex(float32(p), float32(q)), complex(float32(q), 1)
			dot, re, im = dot+p*q, re+p*q+q, im+p-q*q
		}
		wantSum(t, "DotNumbers of integers", float32(dot), true)(impl.DotNumbers(a, b))
		wantComplexSum(t, "DotConjugate of integers", complex(float32(re), float32(im)), true)(impl.DotConjugate(x, y))
	}
}

func TestPowersOf(t *testing.T) {
	nan, inf := num(nanBits), num(infBits)
	for _, c := range []struct {
		what string
		list []complex64
		want float32
		ok   bool
	}{
		{"nil", nil, 0, true},
		{"two", []complex64{complex(3, 4), 1}, 26, true},
		{"in 64 bits", []complex64{0x1p12, 1, 1i}, 0x1p24 + 2, true},
		{"no power is narrowed", []complex64{complex(1, 0x1p-12), 0x1p-12}, 1 + 0x1p-23, true},
		{"from left to right", []complex64{0x1p27, 1, 1}, 0x1p54, true},
		{"tiny", []complex64{complex(num(tiniest), num(tiniest))}, 0, true},
		{"great", []complex64{0x1p64, 1}, inf, true},
		{"infinity", []complex64{complex(1, -inf), 1}, inf, true},
		{"not-a-number", []complex64{complex(inf, nan), 1}, nan, true},
		{"at most", complexOnes(256), 512, true},
		{"too many", complexOnes(257), 0, false},
	} {
		wantSum(t, "PowersOf "+c.what, c.want, c.ok)(impl.PowersOf(c.list))
	}
}
