package tests

import (
	"fmt"
	"math"
	"strings"
	"testing"

	"loop.example/g01308/impl"
)

// packed is the code of three integers and an exponent.
func packed(r, g, b, e int64) int64 {
	return r + 512*g + 262144*b + 134217728*e
}

func TestShareOf(t *testing.T) {
	minus := num(minusZero)
	for _, c := range []struct {
		r, g, b float32
		want    int64
	}{
		{1, 0, 0, 2147483904},
		{0, 0, 0, 0}, {minus, minus, minus, 0}, {0, minus, 1, packed(0, 0, 256, 16)},
		{1, 2, 3, packed(128, 256, 384, 17)},
		{0, 1, 0, packed(0, 256, 0, 16)}, {0, 0, 1, packed(0, 0, 256, 16)},
		// The least exponent, also for lights that are less than its step.
		{num(tiniest), 0, 0, 0}, {0x1p-24, 0x1p-23, 0, packed(1, 2, 0, 0)}, {511 * 0x1p-24, 0, 0, packed(511, 0, 0, 0)},
		// Where two integers are nearest, the even one is taken.
		{0x1p-25, 0x3p-25, 0x5p-25, packed(0, 2, 2, 0)}, {math.Nextafter32(0x1p-25, 1), math.Nextafter32(0x3p-25, 0), 0x7p-25, packed(1, 1, 4, 0)},
		{511, 0.5, 1.5, packed(511, 0, 2, 24)}, {511, 2.5, 3.5, packed(511, 2, 4, 24)}, {511, math.Nextafter32(0.5, 1), math.Nextafter32(1.5, 0), packed(511, 1, 1, 24)},
		// The greatest light tells the exponent, after it is rounded.
		{510.5, 0, 0, packed(510, 0, 0, 24)}, {math.Nextafter32(511.5, 0), 0, 0, packed(511, 0, 0, 24)}, {511.5, 0, 0, packed(256, 0, 0, 25)}, {0, 511.5, 511, packed(0, 256, 256, 25)},
		{512, 1, 3, packed(256, 0, 2, 25)}, {511.5 * 0x1p-24, 0, 0, packed(256, 0, 0, 1)}, {math.Nextafter32(511.5*0x1p-24, 0), 0, 0, packed(511, 0, 0, 0)},
		// The greatest exponent, and the greatest light.
		{65408, 65408, 65408, 4294967295}, {65344, 0, 64, packed(510, 0, 0, 31)}, {0, 192, 65408, packed(0, 2, 511, 31)},
		{num(0x477f7fff), 0, 0, packed(511, 0, 0, 31)}, {32736, 0, 0, packed(256, 0, 0, 31)}, {math.Nextafter32(32736, 0), 0, 0, packed(511, 0, 0, 30)},
	} {
		wantInteger(t, fmt.Sprintf("ShareOf %v, %v, %v", c.r, c.g, c.b), c.want, true)(impl.ShareOf(c.r, c.g, c.b))
	}
}

func TestShareOfFails(t *testing.T) {
	for _, x := range append(notFinite(), math.Nextafter32(65408, 65409), 65409, 65504, num(greatest), num(0x80000001), -1) {
		wantInteger(t, fmt.Sprintf("ShareOf the red %v", x), 0, false)(impl.ShareOf(x, 1, 1))
		wantInteger(t, fmt.Sprintf("ShareOf the green %v", x), 0, false)(impl.ShareOf(1, x, 1))
		wantInteger(t, fmt.Sprintf("ShareOf the blue %v", x), 0, false)(impl.ShareOf(1, 1, x))
		wantInteger(t, fmt.Sprintf("ShareOf three times %v", x), 0, false)(impl.ShareOf(x, x, x))
	}
}

func wantShares(t *testing.T, code int64, r, g, b float32, wantOK bool) {
	t.Helper()
	x, y, z, ok := impl.FromShare(code)
	wantBool(t, fmt.Sprintf("FromShare %d succeeds", code), ok, wantOK)
	wantNumber(t, fmt.Sprintf("red of FromShare %d", code), x, r)
	wantNumber(t, fmt.Sprintf("green of FromShare %d", code), y, g)
	wantNumber(t, fmt.Sprintf("blue of FromShare %d", code), z, b)
}

func TestFromShare(t *testing.T) {
	wantShares(t, 2147483904, 1, 0, 0, true)
	wantShares(t, 0, 0, 0, 0, true)
	wantShares(t, packed(1, 0, 0, 0), 0x1p-24, 0, 0, true)
	wantShares(t, packed(0, 1, 0, 0), 0, 0x1p-24, 0, true)
	wantShares(t, packed(0, 0, 1, 0), 0, 0, 0x1p-24, true)
	wantShares(t, packed(511, 510, 509, 24), 511, 510, 509, true)
	wantShares(t, 4294967295, 65408, 65408, 65408, true)
	// Codes that no light has are read as well.
	wantShares(t, packed(1, 2, 3, 31), 128, 256, 384, true)
	wantShares(t, packed(0, 0, 0, 31), 0, 0, 0, true)
	for _, code := range []int64{-1, 4294967296, math.MinInt64, math.MaxInt64, 1<<40 + 5} {
		wantShares(t, code, 0, 0, 0, false)
	}
	for seed := int64(1); seed < 1<<32; seed += 4294967 {
		r, g, b, e := seed%512, seed/512%512, seed/262144%512, int(seed/134217728)-24
		wantShares(t, seed, float32(math.Ldexp(float64(r), e)), float32(math.Ldexp(float64(g), e)), float32(math.Ldexp(float64(b), e)), true)
	}
}

// TestSharesMissByNoMoreThanTold: by half of the step of the greatest light; and what they are read as is the same again.
func TestSharesMissByNoMoreThanTold(t *testing.T) {
	lights := someLights(3000)
	for i := 2; i < len(lights); i++ {
		scale := float32(math.Ldexp(1, i%40-24))
		r, g, b := lights[i]*scale, lights[i-1]*scale, lights[i-2]*lights[i]*scale
		code, ok := impl.ShareOf(r, g, b)
		x, y, z, too := impl.FromShare(code)
		step := math.Ldexp(1, int(code/134217728)-24)
		if !ok || !too || math.Abs(float64(x-r)) > step/2 || math.Abs(float64(y-g)) > step/2 || math.Abs(float64(z-b)) > step/2 {
			t.Fatalf("shares of %v, %v, %v: got %v, %v, %v with the step %v", r, g, b, x, y, z, step)
		}
		if most := float64(max(r, g, b)); step > 0x1p-24 && math.RoundToEven(most/step*2) <= 511 {
			t.Fatalf("shares of %v, %v, %v: the step %v is not the least", r, g, b, step)
		}
		wantInteger(t, fmt.Sprintf("ShareOf %v, %v, %v again", x, y, z), code, true)(impl.ShareOf(x, y, z))
	}
}

// narrowLog is that of math/big; chapter 1 is tested with it.
func narrowLog(x float32) float32 {
	switch {
	case x == 0:
		return num(minusInfBits)
	case math.IsInf(float64(x), 1):
		return x
	}
	return wideLog(x).narrow()
}

func wantedLog(x, low, stops float32) int64 {
	u := by(narrowLog(by(x, low)), times(stops, 0.6931472))
	switch {
	case u >= 1:
		return 255
	case !(u > 0):
		return 0
	}
	return int64(math.RoundToEven(float64(times(255, u))))
}

func TestLogOf(t *testing.T) {
	tiny, max := num(tiniest), num(greatest)
	for _, c := range []struct {
		x, low, stops float32
		want          int64
	}{
		{1, 0.0625, 8, 128}, {1, 1, 8, 0}, {0.5, 1, 8, 0}, {0, 1, 8, 0}, {num(minusZero), 1, 8, 0}, {tiny, 1, 8, 0},
		{2, 1, 255, 1}, {3, 1, 255, 2}, {256, 1, 8, 255}, {257, 1, 8, 255}, {max, 1, 8, 255}, {128, 1, 8, 223}, {16, 1, 8, 128},
		// The quotient of the light and the least one is infinite, or zero.
		{max, tiny, 8, 255}, {max, 0.5, 500, 255}, {max, 1, 500, 65}, {max, 0.5, max, 255}, {tiny, max, 8, 0}, {tiny, max, tiny, 0},
		// The least number of stops.
		{num(0x3f800001), 1, tiny, 255}, {1, 1, tiny, 0}, {1, 2, tiny, 0}, {max, 1, max, 0}, {tiny, tiny, 1, 0},
	} {
		wantInteger(t, fmt.Sprintf("LogOf %v, %v, %v", c.x, c.low, c.stops), c.want, true)(impl.LogOf(c.x, c.low, c.stops))
	}
}

func TestLogOfRoundsEachOperation(t *testing.T) {
	lights := someLights(400)
	for i := 2; i < len(lights); i++ {
		x, low, stops := 100*lights[i], lights[i-1]/16+0x1p-20, 16*lights[i-2]+0.5
		wantInteger(t, fmt.Sprintf("LogOf %v, %v, %v", x, low, stops), wantedLog(x, low, stops), true)(impl.LogOf(x, low, stops))
	}
	// All codes and the numbers around the middles between them.
	for code := range 256 {
		x := float32(math.Exp2((float64(code) + 0.5) / 255 * 12))
		for range 8 {
			x = math.Nextafter32(x, 0)
		}
		for range 16 {
			wantInteger(t, fmt.Sprintf("LogOf %v, 1, 12", x), wantedLog(x, 1, 12), true)(impl.LogOf(x, 1, 12))
			x = math.Nextafter32(x, 2*x)
		}
	}
}

func TestLogOfFails(t *testing.T) {
	for _, x := range append(notFinite(), num(0x80000001), -1) {
		wantInteger(t, fmt.Sprintf("LogOf %v", x), 0, false)(impl.LogOf(x, 1, 8))
		wantInteger(t, fmt.Sprintf("LogOf with the least light %v", x), 0, false)(impl.LogOf(1, x, 8))
		wantInteger(t, fmt.Sprintf("LogOf with %v stops", x), 0, false)(impl.LogOf(1, 1, x))
		wantSum(t, fmt.Sprintf("FromLog with the least light %v", x), 0, false)(impl.FromLog(0, x, 8))
		wantSum(t, fmt.Sprintf("FromLog with %v stops", x), 0, false)(impl.FromLog(0, 1, x))
	}
	for _, zero := range []float32{0, num(minusZero)} {
		wantInteger(t, "LogOf with the least light 0", 0, false)(impl.LogOf(1, zero, 8))
		wantInteger(t, "LogOf with 0 stops", 0, false)(impl.LogOf(1, 1, zero))
		wantSum(t, "FromLog with the least light 0", 0, false)(impl.FromLog(5, zero, 8))
		wantSum(t, "FromLog with 0 stops", 0, false)(impl.FromLog(5, 1, zero))
	}
	for _, code := range []int64{-1, 256, 511, math.MinInt64, math.MaxInt64} {
		wantSum(t, fmt.Sprintf("FromLog %d", code), 0, false)(impl.FromLog(code, 1, 8))
	}
}

func TestFromLog(t *testing.T) {
	tiny, max := num(tiniest), num(greatest)
	wantSum(t, "FromLog 0", 0.25, true)(impl.FromLog(0, 0.25, 8))
	wantSum(t, "FromLog 0 with the greatest stops", 0.25, true)(impl.FromLog(0, 0.25, max))
	wantSum(t, "FromLog 255 with the least stops", 0.25, true)(impl.FromLog(255, 0.25, tiny))
	wantSum(t, "FromLog 0 with the least light", tiny, true)(impl.FromLog(0, tiny, 8))
	wantSum(t, "FromLog 0 with the greatest light", max, true)(impl.FromLog(0, max, 8))
	wantSum(t, "FromLog that is too great", 0, false)(impl.FromLog(1, max, 8))
	wantSum(t, "FromLog with too many stops", 0, false)(impl.FromLog(255, 1, 300))
	wantSum(t, "FromLog with the most stops", 0, false)(impl.FromLog(1, tiny, max))
	wantSum(t, "FromLog whose power is infinite", 0, false)(impl.FromLog(255, tiny, 129))
	for code := int64(0); code <= 255; code++ {
		for i, stops := range []float32{8, 12.3, 0.7, 100} {
			low := someLights(5)[i+1]
			want := times(low, wideExp(times(times(by(float32(code), 255), stops), 0.6931472)))
			wantSum(t, fmt.Sprintf("FromLog %d, %v, %v", code, low, stops), want, true)(impl.FromLog(code, low, stops))
		}
	}
}

// TestLogsMissByNoMoreThanTold: by half of a code, which is a share of all stops, and a little for what is rounded.
func TestLogsMissByNoMoreThanTold(t *testing.T) {
	for _, stops := range []float32{1, 8, 20.5} {
		for _, share := range someLights(500) {
			x := float32(0.01 * math.Exp2(float64(share*stops)))
			code, ok := impl.LogOf(x, 0.01, stops)
			back, too := impl.FromLog(code, 0.01, stops)
			if miss := math.Abs(math.Log2(float64(back) / float64(x))); !ok || !too || miss > float64(stops)/510+2e-6 {
				t.Errorf("light %v of %v stops: got the code %d and back %v", x, stops, code, back)
			}
		}
		for code := int64(0); code <= 255; code++ {
			x, _ := impl.FromLog(code, 0.01, stops)
			wantInteger(t, fmt.Sprintf("LogOf FromLog of %v stops", stops), code, true)(impl.LogOf(x, 0.01, stops))
		}
	}
}

func TestPlanes(t *testing.T) {
	p := pictureOf(3, 1, 1+0x1p-10, -2, num(0x477fefff))
	wantText(t, "PlanesOf", "\x3c\xc0\x7b\x01\x00\xff", true)(impl.PlanesOf(p))
	wantPicture(t, "FromPlanes", pictureOf(3, 1, 1+0x1p-10, -2, 65504))(impl.FromPlanes(3, 1, "\x3c\xc0\x7b\x01\x00\xff"))
	wantPicture(t, "FromPlanes of zeros", pictureOf(1, 2, 0, num(minusZero)))(impl.FromPlanes(1, 2, "\x00\x80\x00\x00"))
	// A light that has no finite half has planes, but planes with it have no picture.
	wantText(t, "PlanesOf too great lights", "\x7c\xfc\x00\x00", true)(impl.PlanesOf(pictureOf(1, 2, 65520, num(0xff7fffff))))
	for _, code := range []string{"\x7c\x00", "\xfc\x00", "\x7c\x01", "\x7e\x00", "\xff\xff", "\xfc\x01"} {
		wantNoPicture(t, fmt.Sprintf("FromPlanes of the half %x", code))(impl.FromPlanes(1, 1, code))
	}
	for _, text := range []string{"", "\x00", "\x00\x00", "\x00\x00\x00", "\x00\x00\x00\x00\x00", strings.Repeat("\x00", 8)} {
		wantNoPicture(t, fmt.Sprintf("FromPlanes of %d bytes for two pixels", len(text)))(impl.FromPlanes(2, 1, text))
	}
}

func TestPlanesAreReadAsTheyWereWritten(t *testing.T) {
	for wide := int64(1); wide <= 16; wide += 3 {
		for high := int64(1); high <= 16; high += 5 {
			p := pictureOf(wide, high, someLights(int(wide*high))...)
			halves, _ := impl.HalvedPicture(p)
			planes, ok := impl.PlanesOf(p)
			want := make([]byte, 2*wide*high)
			for i, light := range p.Lights {
				code := impl.HalfOf(light)
				want[i], want[wide*high+int64(i)] = byte(code/256), byte(code%256)
			}
			wantText(t, fmt.Sprintf("PlanesOf %d by %d", wide, high), string(want), true)(planes, ok)
			wantPicture(t, fmt.Sprintf("FromPlanes %d by %d", wide, high), halves)(impl.FromPlanes(wide, high, planes))
		}
	}
	most := strings.Repeat("\x3c", 256) + strings.Repeat("\x00", 256)
	wantPicture(t, "FromPlanes of the greatest sides", pictureOf(16, 16, ones(256)...))(impl.FromPlanes(16, 16, most))
}

func TestRunsOf(t *testing.T) {
	a := func(n int) string { return strings.Repeat("a", n) }
	for _, c := range []struct{ text, runs string }{
		{"", ""}, {"a", "\x01a"}, {"aaab", "\x03a\x01b"}, {"abab", "\x01a\x01b\x01a\x01b"},
		{"\x00\x00\xff\xff\xff", "\x02\x00\x03\xff"}, {"\u00e9\u00e9", "\x01\xc3\x01\xa9\x01\xc3\x01\xa9"}, {"\xff\xfe\x80\x80", "\x01\xff\x01\xfe\x02\x80"},
		{a(254), "\xfea"}, {a(255), "\xffa"}, {a(256), "\xffa\x01a"}, {a(257), "\xffa\x02a"}, {a(510), "\xffa\xffa"}, {a(511), "\xffa\xffa\x01a"},
		{a(255) + "b", "\xffa\x01b"}, {a(256) + "ba", "\xffa\x01a\x01b\x01a"}, {"b" + a(256), "\x01b\xffa\x01a"}, {a(255) + "b" + a(255), "\xffa\x01b\xffa"},
		{a(4096), strings.Repeat("\xffa", 16) + "\x10a"}, {strings.Repeat("ab", 2048), strings.Repeat("\x01a\x01b", 2048)},
	} {
		wantText(t, fmt.Sprintf("RunsOf %d bytes, %.5q", len(c.text), c.text), c.runs, true)(impl.RunsOf(c.text))
		wantText(t, fmt.Sprintf("FromRuns of %d bytes, %.5q", len(c.runs), c.runs), c.text, true)(impl.FromRuns(c.runs))
	}
	for _, text := range []string{a(4097), strings.Repeat("ab", 2048) + "a", a(100000)} {
		wantText(t, fmt.Sprintf("RunsOf %d bytes", len(text)), "", false)(impl.RunsOf(text))
	}
}

func TestFromRunsFails(t *testing.T) {
	for _, runs := range []string{
		"a", "\x01", "\x01a\x01", "\x03a\x01b\x02",
		// No run is empty, and none could be longer.
		"\x00a", "\x00\x00", "\x01a\x00b", "\x00b\x01a", "\x01a\x00b\x01a", "\x01a\x00a",
		"\x01a\x01a", "\x01a\xffa", "\xfea\x01a", "\xfea\xffa", "\xffa\x01a\x01a", "\xffa\xfea\x01a", "\x01b\x02a\x03a",
		// 4097 bytes, and many more.
		strings.Repeat("\xffa", 16) + "\x11a", strings.Repeat("\x01a\x01b", 2048) + "\x01a", strings.Repeat("\xffa", 100000), strings.Repeat("\x00a", 100000),
	} {
		wantText(t, fmt.Sprintf("FromRuns of %d bytes, %.8q", len(runs), runs), "", false)(impl.FromRuns(runs))
	}
}

func TestRunsAreReadAsTheyWereWritten(t *testing.T) {
	seed := uint32(3)
	for range 300 {
		var text strings.Builder
		for text.Len() < 3000 {
			seed = seed*1664525 + 1013904223
			text.WriteString(strings.Repeat(string([]byte{byte(seed >> 24)}), int(seed>>8%900)%700))
		}
		whole := text.String()[:3000]
		runs, ok := impl.RunsOf(whole)
		wantText(t, "FromRuns of RunsOf", whole, true)(impl.FromRuns(runs))
		for i := 0; i < len(runs); i += 2 {
			if !ok || runs[i] == 0 || i > 0 && runs[i-1] == runs[i+1] && runs[i-2] != 255 {
				t.Fatalf("RunsOf: the run %d is not as long as possible", i/2)
			}
		}
	}
	// All short texts, which tell by themselves which of them are runs of a text.
	for code := range 1 << 16 {
		runs := string([]byte{byte(code % 4), byte(code / 4 % 4), byte(code / 16 % 256), byte(code / 4096 % 16)})
		text, ok := impl.FromRuns(runs)
		again, _ := impl.RunsOf(text)
		if ok != (again == runs) || ok != (runs[0] > 0 && runs[2] > 0 && runs[1] != runs[3]) {
			t.Fatalf("FromRuns %q: got %q, %v", runs, text, ok)
		}
	}
}
