package tests

import (
	"fmt"
	"math"
	"testing"

	"loop.example/g01308/impl"
)

// halfValues counts up from 0: the halves of each exponent lie a step apart that doubles with it.
func halfValues() []float64 {
	values := []float64{0}
	step := math.Ldexp(1, -24)
	for code := 1; code < 31744; code++ {
		if code%1024 == 1 && code > 2048 {
			step *= 2
		}
		values = append(values, values[code-1]+step)
	}
	return values
}

func wantHalf(t *testing.T, x float32, want int64) {
	t.Helper()
	if got := impl.HalfOf(x); got != want {
		t.Errorf("HalfOf %v (%08x): got %d, want %d", x, rawBits(x), got, want)
	}
}

func wantFromHalf(t *testing.T, code int64, want float32) {
	t.Helper()
	got, ok := impl.FromHalf(code)
	wantBool(t, fmt.Sprintf("FromHalf %d succeeds", code), ok, true)
	wantNumber(t, fmt.Sprintf("FromHalf %d", code), got, want)
}

func TestHalfExamples(t *testing.T) {
	wantHalf(t, 1, 15360)
	wantHalf(t, -2, 49152)
	wantHalf(t, 65504, 31743)
	for code, want := range map[int64]float32{
		0: 0, 1: 0x1p-24, 2: 0x1p-23, 1023: 0x1p-14 - 0x1p-24, 1024: 0x1p-14, 1025: 0x1p-14 + 0x1p-24, 2047: 0x1p-13 - 0x1p-24, 2048: 0x1p-13, 2049: 0x1p-13 + 0x1p-23,
		15360: 1, 15361: 1 + 0x1p-10, 16384: 2, 31743: 65504, 31744: num(infBits), 31745: num(nanBits), 32256: num(nanBits), 32767: num(nanBits),
		32768: num(minusZero), 32769: -0x1p-24, 33792: -0x1p-14, 48128: -1, 49152: -2, 64511: -65504, 64512: num(minusInfBits), 64513: num(nanBits), 65535: num(nanBits),
	} {
		wantFromHalf(t, code, want)
	}
}

func TestHalvesAreReadAndWrittenAsTheSame(t *testing.T) {
	values := halfValues()
	for code, value := range values {
		wantFromHalf(t, int64(code), float32(value))
		wantHalf(t, float32(value), int64(code))
		minus := float32(math.Copysign(value, -1))
		wantFromHalf(t, int64(code)+32768, minus)
		wantHalf(t, minus, int64(code)+32768)
	}
	for code := int64(0); code < 65536; code++ {
		x, ok := impl.FromHalf(code)
		want := code
		if code%32768 > 31744 {
			want = 32256
		}
		if got := impl.HalfOf(x); !ok || got != want {
			t.Errorf("HalfOf FromHalf %d: got %d, %v", code, got, ok)
		}
	}
}

func TestFromHalfLimits(t *testing.T) {
	for _, code := range []int64{-1, 65536, 65536 + 15360, 1<<32 + 15360, math.MinInt64, math.MaxInt64} {
		x, ok := impl.FromHalf(code)
		wantBool(t, fmt.Sprintf("FromHalf %d succeeds", code), ok, false)
		wantNumber(t, fmt.Sprintf("FromHalf %d", code), x, 0)
	}
}

// TestHalvesBetweenTwoOthers takes the middle of each two halves, where the even one is nearest, and the numbers beside it.
func TestHalvesBetweenTwoOthers(t *testing.T) {
	values := append(halfValues(), 65536)
	for code := range int64(31744) {
		middle := float32((values[code] + values[code+1]) / 2)
		even := code + code%2
		for sign, x := range map[int64]float32{0: middle, 32768: -middle} {
			wantHalf(t, x, even+sign)
			wantHalf(t, math.Nextafter32(x, 0), code+sign)
			wantHalf(t, math.Nextafter32(x, 2*x), code+1+sign)
		}
	}
}

func TestHalfEdges(t *testing.T) {
	for _, c := range []struct {
		bits uint32
		want int64
	}{
		{0, 0}, {minusZero, 32768},
		// Subnormal numbers, and all that are at most half of the least half, are zeros that keep their signs.
		{tiniest, 0}, {0x80000001, 32768}, {0x007fffff, 0}, {0x00800000, 0}, {0x80800000, 32768},
		{0x33000000, 0}, {0xb3000000, 32768}, {0x33000001, 1}, {0xb3000001, 32769}, {0x33800000, 1},
		{0x33bfffff, 1}, {0x33c00000, 2}, {0x33c00001, 2}, {0x33ffffff, 2}, {0x34000000, 2}, {0x34200000, 2}, {0x34200001, 3}, {0x34600000, 4},
		// The greatest subnormal half, and the least one that is not.
		{0x387fc000, 1023}, {0x387fdfff, 1023}, {0x387fe000, 1024}, {0x387fffff, 1024}, {0x38800000, 1024}, {0x38801000, 1024}, {0x38801001, 1025}, {0x38803000, 1026},
		// What is rounded up to a power of two.
		{0x3f7fffff, 15360}, {0x3f7ff000, 15360}, {0x3f7fefff, 15359}, {0xbf7ff000, 48128},
		// The greatest half, 65520, and beyond.
		{0x477fe000, 31743}, {0x477fefff, 31743}, {0x477ff000, 31744}, {0xc77fefff, 64511}, {0xc77ff000, 64512}, {0x47800000, 31744},
		{greatest, 31744}, {0xff7fffff, 64512}, {infBits, 31744}, {minusInfBits, 64512},
		{nanBits, 32256}, {0xffc00000, 32256}, {0x7f800001, 32256}, {0xff800001, 32256}, {0x7fffffff, 32256}, {0xffffffff, 32256},
	} {
		wantHalf(t, num(c.bits), c.want)
	}
}

// TestHalvesMissByNoMoreThanTold: by half of a step.
func TestHalvesMissByNoMoreThanTold(t *testing.T) {
	for _, x := range append(someNumbers(20000), someLights(2000)...) {
		half, _ := impl.FromHalf(impl.HalfOf(x))
		a := math.Abs(float64(x))
		if a >= 65520 {
			wantNumber(t, fmt.Sprintf("half of %v", x), half, float32(math.Inf(int(math.Copysign(1, float64(x))))))
			continue
		}
		exponent := math.Ilogb(math.Max(a, 0x1p-14))
		if miss := math.Abs(float64(half) - float64(x)); miss > math.Ldexp(1, exponent-11) || math.Signbit(float64(half)) != math.Signbit(float64(x)) {
			t.Errorf("half of %v: got %v, which misses by %v", x, half, miss)
		}
		wantNumber(t, fmt.Sprintf("half of the half of %v", x), fromHalfOf(half), half)
	}
}

func fromHalfOf(x float32) float32 {
	half, _ := impl.FromHalf(impl.HalfOf(x))
	return half
}

func TestHalvedPicture(t *testing.T) {
	minus := num(minusZero)
	p := pictureOf(3, 2, num(0x3f800347), -2, minus, 0x1p-25, num(0x477fefff), 0x1.8p-24)
	wantPicture(t, "HalvedPicture", pictureOf(3, 2, 1, -2, minus, 0, 65504, 0x1p-23))(impl.HalvedPicture(p))
	for _, bits := range []uint32{0x477ff000, 0xc77ff000, greatest, 0xff7fffff} {
		wantNoPicture(t, "HalvedPicture with a light that is too great")(impl.HalvedPicture(pictureOf(2, 1, 0, num(bits))))
		wantSum(t, "WorstHalf with a light that is too great", 0, false)(impl.WorstHalf(pictureOf(2, 1, 0, num(bits))))
	}
	lights := someLights(256)
	want := pictureOf(16, 16, lights...)
	for i, x := range lights {
		want.Lights[i] = fromHalfOf(x)
	}
	wantPicture(t, "HalvedPicture of many lights", want)(impl.HalvedPicture(pictureOf(16, 16, lights...)))
	wantPicture(t, "HalvedPicture of halves", want)(impl.HalvedPicture(want))
}

func TestWorstHalf(t *testing.T) {
	for _, c := range []struct {
		p    impl.Picture
		want float32
	}{
		{pictureOf(2, 2, 1, -2, num(minusZero), 65504), 0},
		{pictureOf(1, 1, 1+0x1p-12), 0x1p-12},
		{pictureOf(1, 1, 1-0x1p-13), 0x1p-13},
		{pictureOf(1, 1, -1-0x1p-12), 0x1p-12},
		{pictureOf(3, 1, 1+0x1p-12, 1-0x1p-13, 5), 0x1p-12},
		{pictureOf(3, 1, 1-0x1p-13, 1, 1+0x1p-12), 0x1p-12},
		{pictureOf(1, 1, num(tiniest)), num(tiniest)},
		{pictureOf(1, 1, num(0x80000001)), num(tiniest)},
		{pictureOf(1, 1, 65519), 15},
		{pictureOf(1, 1, 65505), 1},
		{pictureOf(1, 1, -65519), 15},
	} {
		wantSum(t, fmt.Sprintf("WorstHalf of %v", c.p), c.want, true)(impl.WorstHalf(c.p))
	}
	p := pictureOf(16, 16, someLights(256)...)
	halves, _ := impl.HalvedPicture(p)
	worst := float32(0)
	for i, light := range p.Lights {
		worst = max(worst, float32(math.Abs(float64(less(halves.Lights[i], light)))))
	}
	wantSum(t, "WorstHalf of many lights", worst, true)(impl.WorstHalf(p))
}
