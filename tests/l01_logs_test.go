package tests

import (
	"fmt"
	"math"
	"testing"

	"loop.example/g01308/impl"
)

func TestTenthsOf(t *testing.T) {
	for _, c := range []struct {
		bits uint32
		want int64
	}{
		{0x3f800000, 0}, {0x40000000, 30}, {0x3f000000, -30}, {0x41200000, 100}, {0x42c80000, 200}, {0x3a83126f, -300},
		{tiniest, -4485}, {greatest, 3853}, {0x3fc00000, 18}, {0x3f400000, -12}, {0x40400000, 48},
		{0x3f8147ae, 0}, {0x3f7d70a4, 0},
		// 0.05 decibels are rounded up.
		{0x3f817b6f, 0}, {0x3f817c1c, 1},
	} {
		wantInteger(t, fmt.Sprintf("TenthsOf %v", num(c.bits)), c.want, true)(impl.TenthsOf(num(c.bits)))
	}
	for _, bits := range []uint32{0, minusZero, 0x80000001, 0xbf800000, infBits, minusInfBits, nanBits, 0x7f800001, 0xffffffff} {
		wantInteger(t, fmt.Sprintf("TenthsOf %08x", bits), 0, false)(impl.TenthsOf(num(bits)))
	}
}

// finiteSweep are finite numbers greater than 0 of all sizes.
func finiteSweep() []float32 {
	var list []float32
	for bits := uint32(1); bits <= greatest; bits += 1000003 {
		list = append(list, num(bits))
	}
	return list
}

func TestLogsAreTheLogarithm(t *testing.T) {
	for _, x := range finiteSweep() {
		got := impl.LogNumber(x)
		wantNumber(t, fmt.Sprintf("LogNumber %v", x), got, wideLog(x).narrow())
		want := math.Log(float64(x))
		if math.Abs(float64(got)-want) > 1e-7*math.Abs(want)+1e-12 {
			t.Errorf("LogNumber %v: got %v, but the logarithm is %v", x, got, want)
		}
		wantInteger(t, fmt.Sprintf("TenthsOf %v", x), wideTenths(x), true)(impl.TenthsOf(x))
	}
}

func TestLogNumberEdges(t *testing.T) {
	for _, c := range []struct{ x, want uint32 }{
		{0x3f800000, 0}, {0x40000000, 0x3f317218}, {0x3f000000, 0xbf317218}, {0x41200000, 0x40135d8e}, {0x402df854, 0x3f7fffff},
		{tiniest, 0xc2ce8ed0}, {greatest, 0x42b17218}, {0x3f400000, 0xbe934b11}, {0x3fc00000, 0x3ecf991f},
		{0x3f800001, 0x33ffffff}, {0x3f7ffffe, 0xb4000001}, {0x004c3927, 0xc2afb5b7},
		{0, minusInfBits}, {minusZero, minusInfBits}, {infBits, infBits},
		{0x80000001, nanBits}, {0xbf800000, nanBits}, {minusInfBits, nanBits}, {nanBits, nanBits}, {0xff800001, nanBits},
	} {
		wantNumber(t, fmt.Sprintf("LogNumber %08x", c.x), impl.LogNumber(num(c.x)), num(c.want))
	}
}

func TestExpNumberEdges(t *testing.T) {
	for _, c := range []struct{ x, want uint32 }{
		{0, 0x3f800000}, {minusZero, 0x3f800000}, {tiniest, 0x3f800000}, {0x0da24260, 0x3f800000},
		{0x3f800000, 0x402df854}, {0xbf800000, 0x3ebc5ab2}, {0x3f000000, 0x3fd3094c}, {0x40000000, 0x40ec7326},
		{0x41200000, 0x46ac14ee}, {0xc1200000, 0x383e6bce}, {0x42b16666, 0x7f7a37fc}, {0x42b175c3, infBits},
		{0xc2af0000, 0x006cb2bc}, {0xc2c80000, 0x0000001b}, {0xc2cfcccd, tiniest}, {0xc2d00000, 0},
		// So near to the middle of two numbers that they tell a series that is shorter, fused or exact.
		{0x4286088f, 0x6fcdbda3}, {0x42940fd7, 0x74df7d6c}, {0x4288942b, 0x70b7a4c5}, {0x4001b249, 0x40f2cd15}, {0x40315b33, 0x417fa47c},
		{0x43480000, infBits}, {0xc3480000, 0}, {0x43480001, infBits}, {0xc3480001, 0}, {greatest, infBits}, {0xff7fffff, 0},
		{infBits, infBits}, {minusInfBits, 0}, {nanBits, nanBits}, {0xffffffff, nanBits}, {0x7f800001, nanBits},
	} {
		wantNumber(t, fmt.Sprintf("ExpNumber %08x", c.x), impl.ExpNumber(num(c.x)), num(c.want))
	}
}

func TestExpNumberIsThePower(t *testing.T) {
	for i := -3200; i <= 3200; i++ {
		x := float32(i) / 16
		got := impl.ExpNumber(x)
		wantNumber(t, fmt.Sprintf("ExpNumber %v", x), got, wideExp(x))
		want := math.Exp(float64(x))
		if x > -87 && x < 88 && math.Abs(float64(got)-want) > 1e-7*want {
			t.Errorf("ExpNumber %v: got %v, but the power is %v", x, got, want)
		}
	}
}

func TestRootNumber(t *testing.T) {
	for _, c := range []struct{ x, want uint32 }{
		{0, 0}, {minusZero, minusZero}, {0x41100000, 0x40400000}, {0x40000000, 0x3fb504f3},
		{tiniest, 0x1a3504f3}, {greatest, 0x5f7fffff}, {infBits, infBits},
		{0xbf800000, nanBits}, {0x80000001, nanBits}, {minusInfBits, nanBits}, {nanBits, nanBits}, {0xff812345, nanBits},
	} {
		wantNumber(t, fmt.Sprintf("RootNumber %08x", c.x), impl.RootNumber(num(c.x)), num(c.want))
	}
	for i := range 4096 {
		wantNumber(t, "RootNumber of a square", impl.RootNumber(float32(i*i)), float32(i))
	}
	for _, x := range finiteSweep() {
		wantNumber(t, fmt.Sprintf("RootNumber %v", x), impl.RootNumber(x), toWide(float64(x)).root().narrow())
	}
}
