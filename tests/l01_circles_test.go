package tests

import (
	"fmt"
	"math"
	"testing"

	"loop.example/g01308/impl"
)

func TestSineTurnsEdges(t *testing.T) {
	for _, c := range []struct{ x, want uint32 }{
		{0, 0}, {minusZero, minusZero},
		{0x3e800000, 0x3f800000}, {0x3f000000, minusZero}, {0x3f400000, 0xbf800000}, {0x3f800000, 0},
		{0xbe800000, 0xbf800000}, {0xbf000000, minusZero}, {0xbf400000, 0x3f800000}, {0xbf800000, 0},
		// So small and negative that the part of a turn is rounded to 1.
		{0x9e3ce508, minusZero}, {0x80000001, minusZero}, {tiniest, 6},
		// 2 to the power of 52, the number before it, and others that are greater.
		{0x59800000, 0}, {0xd9800000, 0}, {0x597fffff, 0}, {0xd97fffff, 0}, {0x5f000000, 0}, {0xdf000000, 0}, {0x7149f2ca, 0}, {greatest, 0}, {0xff7fffff, 0},
		{infBits, nanBits}, {minusInfBits, nanBits}, {nanBits, nanBits}, {0xffffffff, nanBits}, {0x7f800001, nanBits},
	} {
		wantNumber(t, fmt.Sprintf("SineTurns %08x", c.x), impl.SineTurns(num(c.x)), num(c.want))
	}
}

func TestSineTurnsBits(t *testing.T) {
	for _, c := range []struct{ x, want uint32 }{
		{0x3dcccccd, 0x3f167918}, {0x3eaaaaab, 0x3f5db3d7}, {0x3e000000, 0x3f3504f3}, {0x3f666666, 0xbf16791a},
		{0xbdcccccd, 0xbf167918}, {0xbfd9999a, 0x3f737872}, {0x447a1333, 0x3f7379fe}, {0x0da24260, 0x0efee054},
		{0x47f12064, 0xbf7b14be}, {0xc0e20000, 0xbec3ef15},
		// So near to the middle of two numbers that they tell a series or a turn that is a little less exact.
		{0x3e434f37, 0x3f6e7421}, {0x3e5d0d36, 0x3f7a22f0}, {0x3ee05015, 0x3ec21dd8},
	} {
		wantNumber(t, fmt.Sprintf("SineTurns %08x", c.x), impl.SineTurns(num(c.x)), num(c.want))
	}
}

func TestSineTurnsIsTheSine(t *testing.T) {
	for i := -3000; i <= 3000; i++ {
		x := float32(i) / 777
		got := impl.SineTurns(x)
		wantNumber(t, fmt.Sprintf("SineTurns %v", x), got, wideSine(toWide(float64(x))).narrow())
		if want := math.Sin(2 * math.Pi * float64(x)); math.Abs(float64(got)-want) > 1e-7 {
			t.Errorf("SineTurns %v: got %v, but the sine is %v", x, got, want)
		}
	}
}

func TestPhasorOfEdges(t *testing.T) {
	nan, minus := num(nanBits), num(minusZero)
	whole := math.Ldexp(1, 52)
	for _, c := range []struct {
		turns float64
		want  complex64
	}{
		{0, complex(1, 0)}, {math.Copysign(0, -1), complex(1, minus)},
		{0.25, complex(0, 1)}, {0.5, complex(-1, 0)}, {0.75, complex(0, -1)}, {1, complex(1, 0)}, {7, complex(1, 0)},
		{-0.25, complex(0, -1)}, {-0.5, complex(-1, 0)}, {-0.75, complex(0, 1)}, {-1, complex(1, 0)},
		{5e-324, complex(1, 0)},
		// The part of a turn is rounded to 1: four quarters.
		{-5e-324, complex(1, 0)}, {-1e-20, complex(1, 0)}, {-0x1p-54, complex(1, 0)},
		{whole, complex(1, 0)}, {-whole, complex(1, 0)}, {whole + 1, complex(1, 0)}, {1e300, complex(1, 0)}, {-math.MaxFloat64, complex(1, 0)},
		{whole - 0.5, complex(-1, 0)}, {0.5 - whole, complex(-1, 0)}, {whole - 1, complex(1, 0)}, {whole/2 - 0.25, complex(0, -1)}, {0.25 - whole/2, complex(0, 1)},
		{math.Inf(1), complex(nan, nan)}, {math.Inf(-1), complex(nan, nan)}, {math.NaN(), complex(nan, nan)},
		{math.Float64frombits(0xfff0000000000001), complex(nan, nan)},
	} {
		wantComplex(t, fmt.Sprintf("PhasorOf %v", c.turns), impl.PhasorOf(c.turns), c.want)
	}
}

func TestPhasorOfBits(t *testing.T) {
	for _, c := range []struct {
		turns float64
		x, y  uint32
	}{
		{0.1, 0x3f4f1bbd, 0x3f167918}, {0.3, 0xbe9e377a, 0x3f737871}, {0.6, 0xbf4f1bbd, 0xbf167918}, {0.9, 0x3f4f1bbd, 0xbf167918},
		{0.125, 0x3f3504f3, 0x3f3504f3}, {-0.1, 0x3f4f1bbd, 0xbf167918}, {1 / 3.0, 0xbf000000, 0x3f5db3d7},
		{-1 / 3.0, 0xbf000000, 0xbf5db3d7}, {1000000.2, 0x3e9e377a, 0x3f737871},
	} {
		wantComplex(t, fmt.Sprintf("PhasorOf %v", c.turns), impl.PhasorOf(c.turns), complex(num(c.x), num(c.y)))
	}
}

func TestPhasorOfIsOnTheCircle(t *testing.T) {
	for i := -3000; i <= 3000; i++ {
		turns := float64(i) / 777
		got := impl.PhasorOf(turns)
		wantComplex(t, fmt.Sprintf("PhasorOf %v", turns), got, widePhasor(turns))
		y, x := math.Sincos(2 * math.Pi * turns)
		if math.Abs(float64(real(got))-x) > 1e-7 || math.Abs(float64(imag(got))-y) > 1e-7 {
			t.Errorf("PhasorOf %v: got %v, but the point is %v, %v", turns, got, x, y)
		}
	}
	for i := range 16 {
		for k := range 16 {
			a, b := float64(i)/16, float64(k)/16
			p := impl.MulComplex(impl.PhasorOf(a), impl.PhasorOf(b))
			q := impl.PhasorOf(a + b)
			if impl.LongOf(p-q) > 3e-7 {
				t.Errorf("phasors of %v and %v: product %v, want %v", a, b, p, q)
			}
		}
	}
}

func TestAngleEdges(t *testing.T) {
	for _, c := range []struct{ y, x, want uint32 }{
		{0, 0, 0}, {minusZero, 0, 0}, {0, minusZero, 0}, {minusZero, minusZero, 0},
		{0, 0x3f800000, 0}, {minusZero, 0x3f800000, 0}, {0x3f800000, 0, 0x3e800000}, {0xbf800000, 0, 0xbe800000},
		{0x3f800000, minusZero, 0x3e800000}, {0, 0xbf800000, 0x3f000000}, {minusZero, 0xbf800000, 0x3f000000},
		{0x3f800000, 0x3f800000, 0x3e000000}, {0xbf800000, 0xbf800000, 0xbec00000},
		{tiniest, tiniest, 0x3e000000}, {greatest, greatest, 0x3e000000},
		{tiniest, greatest, 0}, {0x80000001, greatest, minusZero}, {greatest, tiniest, 0x3e800000},
		{0x80000001, 0xff7fffff, 0xbf000000},
		{infBits, 0, nanBits}, {0, infBits, nanBits}, {minusInfBits, minusInfBits, nanBits},
		{nanBits, 0, nanBits}, {0x3f800000, 0x7f800001, nanBits}, {0xffffffff, nanBits, nanBits},
	} {
		y, x := num(c.y), num(c.x)
		wantNumber(t, fmt.Sprintf("AngleTurns %08x %08x", c.y, c.x), impl.AngleTurns(y, x), num(c.want))
		wantNumber(t, fmt.Sprintf("AngleOf %08x + %08x i", c.x, c.y), impl.AngleOf(complex(x, y)), num(c.want))
	}
}

func TestAngleBits(t *testing.T) {
	for _, c := range []struct{ y, x, want uint32 }{
		{0x3f800000, 0x40000000, 0x3d972029}, {0x40000000, 0x3f800000, 0x3e346fec}, {0x3f800000, 0xc0000000, 0x3eda37f6},
		{0x40000000, 0xbf800000, 0x3ea5c80a}, {0xbf800000, 0x40000000, 0xbd972029}, {0xc0000000, 0x3f800000, 0xbe346fec},
		{0xbf800000, 0xc0000000, 0xbeda37f6}, {0xc0000000, 0xbf800000, 0xbea5c80a}, {0x3e99999a, 0x3f333333, 0x3d83f966},
	} {
		y, x := num(c.y), num(c.x)
		wantNumber(t, fmt.Sprintf("AngleTurns %v %v", y, x), impl.AngleTurns(y, x), num(c.want))
		wantNumber(t, fmt.Sprintf("AngleOf %v + %v i", x, y), impl.AngleOf(complex(x, y)), num(c.want))
	}
}

func TestAngleIsTheAngle(t *testing.T) {
	for i := -40; i <= 40; i++ {
		for k := -40; k <= 40; k++ {
			if i == 0 && k == 0 {
				continue
			}
			y, x := float32(i)/7, float32(k)/3
			got := impl.AngleTurns(y, x)
			wantNumber(t, fmt.Sprintf("AngleTurns %v %v", y, x), got, wideAngle(y, x))
			want := math.Atan2(float64(y), float64(x)) / (2 * math.Pi)
			if math.Abs(float64(got)-want) > 1e-7 {
				t.Errorf("AngleTurns %v %v: got %v, but the angle is %v", y, x, got, want)
			}
		}
	}
	for i := -31; i <= 31; i++ {
		turns := float32(i) / 64
		got := impl.AngleOf(impl.PhasorOf(float64(turns)))
		if math.Abs(float64(got-turns)) > 1e-7 {
			t.Errorf("AngleOf PhasorOf %v: got %v", turns, got)
		}
	}
}
