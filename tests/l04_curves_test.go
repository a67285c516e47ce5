package tests

import (
	"fmt"
	"math"
	"slices"
	"testing"

	"loop.example/g01308/impl"
)

func TestLimitsOfTones(t *testing.T) {
	if impl.MaxToneKnots != 16 || impl.MaxLevels != 4 {
		t.Error("a limit is not as the document says")
	}
}

func TestValidCurve(t *testing.T) {
	max := num(greatest)
	for _, c := range append(toneCurves(),
		curveOf([]float32{1, after(1)}, []float32{0, 0}),
		curveOf([]float32{-max, max}, []float32{max, -max}),
		curveOf([]float32{num(0x80000001), num(minusZero), num(tiniest)}, []float32{0, num(minusZero), 0}),
	) {
		wantBool(t, fmt.Sprintf("ValidCurve %v", c), impl.ValidCurve(c), true)
	}
	for what, bad := range badToneCurves() {
		wantBool(t, "ValidCurve of "+what, impl.ValidCurve(bad), false)
	}
}

func TestSameCurve(t *testing.T) {
	nan, zero := num(nanBits), num(minusZero)
	c := curveOf([]float32{0, 2, 4}, []float32{0, 1, 5})
	for _, e := range []struct {
		what string
		a, b impl.Curve
		want bool
	}{
		{"equal ones", c, curveOf([]float32{0, 2, 4}, []float32{0, 1, 5}), true},
		{"another room", c, impl.Curve{X: []float32{0, 2, 4}, Y: []float32{0, 1, 5}}, true},
		{"another first X", c, curveOf([]float32{-1, 2, 4}, []float32{0, 1, 5}), false},
		{"another last X", c, curveOf([]float32{0, 2, 5}, []float32{0, 1, 5}), false},
		{"another first Y", c, curveOf([]float32{0, 2, 4}, []float32{1, 1, 5}), false},
		{"another last Y", c, curveOf([]float32{0, 2, 4}, []float32{0, 1, 4}), false},
		{"exchanged numbers", c, curveOf([]float32{0, 1, 5}, []float32{0, 2, 4}), false},
		{"an X more", c, curveOf([]float32{0, 2, 4, 6}, []float32{0, 1, 5}), false},
		{"a Y more", c, curveOf([]float32{0, 2, 4}, []float32{0, 1, 5, 6}), false},
		{"fewer of both", c, curveOf([]float32{0, 2}, []float32{0, 1}), false},
		{"an X in place of a Y", curveOf([]float32{1, 2}, []float32{3}), curveOf([]float32{1}, []float32{2, 3}), false},
		{"X and nothing", curveOf([]float32{1}, nil), curveOf(nil, nil), false},
		{"Y and nothing", curveOf(nil, []float32{1}), curveOf(nil, nil), false},
		{"nil and empty lists", impl.Curve{}, impl.Curve{X: []float32{}, Y: []float32{}}, true},
		{"other zeros as X", curveOf([]float32{0, 1}, []float32{0, 1}), curveOf([]float32{zero, 1}, []float32{0, 1}), false},
		{"other zeros as Y", curveOf([]float32{0, 1}, []float32{0, 1}), curveOf([]float32{0, 1}, []float32{zero, 1}), false},
		{"equal zeros", curveOf([]float32{zero, 1}, []float32{zero, 1}), curveOf([]float32{zero, 1}, []float32{zero, 1}), true},
		{"not-a-numbers", curveOf([]float32{nan}, []float32{nan}), curveOf([]float32{num(0xff800001)}, []float32{num(0xffffffff)}), true},
		{"a not-a-number and 1", curveOf([]float32{nan}, []float32{1}), curveOf([]float32{1}, []float32{1}), false},
		{"infinities", curveOf([]float32{num(infBits)}, []float32{num(minusInfBits)}), curveOf([]float32{num(infBits)}, []float32{num(minusInfBits)}), true},
		{"other infinities", curveOf([]float32{num(infBits)}, nil), curveOf([]float32{num(minusInfBits)}, nil), false},
		{"invalid ones that are equal", curveOf([]float32{3, 2, 1}, []float32{9}), curveOf([]float32{3, 2, 1}, []float32{9}), true},
		{"long ones that are equal", curveOf(ones(99), ones(98)), curveOf(ones(99), ones(98)), true},
	} {
		wantBool(t, "SameCurve: "+e.what, impl.SameCurve(e.a, e.b), e.want)
		wantBool(t, "SameCurve, exchanged: "+e.what, impl.SameCurve(e.b, e.a), e.want)
	}
}

// tone is the number of a curve, each operation of which is rounded.
func tone(c impl.Curve, x float32) float32 {
	last := len(c.X) - 1
	if x <= c.X[0] {
		return c.Y[0]
	}
	if x >= c.X[last] {
		return c.Y[last]
	}
	i := slices.IndexFunc(c.X, func(k float32) bool { return k >= x })
	share := by(less(x, c.X[i-1]), less(c.X[i], c.X[i-1]))
	return plus(c.Y[i-1], times(share, less(c.Y[i], c.Y[i-1])))
}

// placesOn are numbers below, at, beside and between the X of a curve, and above them.
func placesOn(c impl.Curve) []float32 {
	list := append(someNumbers(40), 0, num(minusZero), num(greatest), -num(greatest))
	for k, x := range c.X {
		list = append(list, x, float32(math.Nextafter32(x, num(greatest))), float32(math.Nextafter32(x, -num(greatest))))
		for _, share := range someLights(20) {
			if k > 0 {
				list = append(list, x+share*(c.X[k-1]-x))
			}
		}
	}
	return slices.DeleteFunc(list, func(x float32) bool { return !finite(x) })
}

func TestToneAt(t *testing.T) {
	zero := num(minusZero)
	for _, e := range []struct {
		x, y    []float32
		at, end float32
	}{
		{[]float32{0, 2, 4}, []float32{0, 1, 5}, 3, 3},
		{[]float32{0, 2, 4}, []float32{0, 1, 5}, -1, 0},
		{[]float32{0, 2, 4}, []float32{0, 1, 5}, 0, 0},
		{[]float32{0, 2, 4}, []float32{0, 1, 5}, 1, 0.5},
		{[]float32{0, 2, 4}, []float32{0, 1, 5}, 2, 1},
		{[]float32{0, 2, 4}, []float32{0, 1, 5}, 4, 5},
		{[]float32{0, 2, 4}, []float32{0, 1, 5}, 9, 5},
		{[]float32{1, 2}, []float32{5, 1}, 1.25, 4},
		{[]float32{1, 2}, []float32{5, 1}, 0, 5},
		{[]float32{1, 2}, []float32{5, 1}, 2, 1},
		{[]float32{0, 1}, []float32{zero, 1}, zero, zero},
		{[]float32{0, 1}, []float32{zero, 1}, -1, zero},
		{[]float32{0, 1}, []float32{1, zero}, 1, zero},
		{[]float32{0, 1}, []float32{1, zero}, 2, zero},
		// An inner X is the end of the part before it, whose last number is rounded.
		{[]float32{0, 1, 2}, []float32{0x1p25, 1, 3}, 1, 0},
		{[]float32{0, 1, 2}, []float32{3, 1, 0x1p25}, 1, 1},
		// The last X is no end of a part.
		{[]float32{0, 1}, []float32{0x1p25, 1}, 1, 1},
	} {
		c := curveOf(e.x, e.y)
		wantSum(t, fmt.Sprintf("ToneAt %v of %v", e.at, c), e.end, true)(impl.ToneAt(c, e.at))
	}
	for _, c := range toneCurves() {
		for _, x := range placesOn(c) {
			wantSumIfFinite(t, fmt.Sprintf("ToneAt %v of %v", x, c), tone(c, x))(impl.ToneAt(c, x))
		}
		wantSum(t, "ToneAt the first X", c.Y[0], true)(impl.ToneAt(c, c.X[0]))
		wantSum(t, "ToneAt the last X", c.Y[len(c.Y)-1], true)(impl.ToneAt(c, c.X[len(c.X)-1]))
	}
}

func TestToneAtFails(t *testing.T) {
	max := num(greatest)
	for _, x := range notFinite() {
		for _, c := range toneCurves() {
			wantSum(t, fmt.Sprintf("ToneAt %v", x), 0, false)(impl.ToneAt(c, x))
		}
	}
	for what, bad := range badToneCurves() {
		for _, x := range []float32{-1, 0, 0.5, 1, 2, 99} {
			wantSum(t, fmt.Sprintf("ToneAt %v of %s", x, what), 0, false)(impl.ToneAt(bad, x))
		}
		wantNoPicture(t, "CurvePicture with "+what)(impl.CurvePicture(pictureOf(1, 1, 0.5), bad))
	}
	// The difference of two Y, or of two X, can be infinite.
	steep := curveOf([]float32{0, 1, 2}, []float32{-max, max, 0})
	wantSum(t, "ToneAt the first X of a steep curve", -max, true)(impl.ToneAt(steep, 0))
	wantSum(t, "ToneAt a steep part", 0, false)(impl.ToneAt(steep, 0.5))
	wantSum(t, "ToneAt the end of a steep part", 0, false)(impl.ToneAt(steep, 1))
	wantSum(t, "ToneAt behind a steep part", max/2, true)(impl.ToneAt(steep, 1.5))
	wide := curveOf([]float32{-max, max}, []float32{3, 4})
	wantSum(t, "ToneAt a quotient of 0", 3, true)(impl.ToneAt(wide, 0))
	wantSum(t, "ToneAt a quotient that is not a number", 0, false)(impl.ToneAt(wide, max/2))
	wantSum(t, "ToneAt the last X of a wide curve", 4, true)(impl.ToneAt(wide, max))
}

func TestCurvePicture(t *testing.T) {
	c := curveOf([]float32{0, 2, 4}, []float32{0, 1, 5})
	wantPicture(t, "CurvePicture of the example", pictureOf(2, 2, 0.5, 1, 1, 5))(impl.CurvePicture(pictureOf(2, 2, 1, 2, 2, 5), c))
	for _, c := range toneCurves() {
		for i, p := range tonePictures() {
			want := changed(p, func(_ int, light float32) float32 { return tone(c, light) })
			wantIfFinite(t, fmt.Sprintf("CurvePicture %d with %v", i, c), want)(impl.CurvePicture(p, c))
		}
	}
	for what, bad := range badPictures() {
		wantNoPicture(t, "CurvePicture of "+what)(impl.CurvePicture(bad, c))
	}
	max := num(greatest)
	steep := curveOf([]float32{0, 1}, []float32{-max, max})
	wantPicture(t, "CurvePicture beside a steep part", pictureOf(2, 1, -max, max))(impl.CurvePicture(pictureOf(2, 1, 0, 1), steep))
	wantNoPicture(t, "CurvePicture with a light in a steep part")(impl.CurvePicture(pictureOf(2, 1, 0, 0.5), steep))
	wantNoPicture(t, "CurvePicture with a first light in a steep part")(impl.CurvePicture(pictureOf(2, 1, 0.5, 0), steep))
}

func TestBackCurve(t *testing.T) {
	for _, c := range []impl.Curve{
		curveOf([]float32{0, 2, 4}, []float32{0, 1, 5}),
		curveOf([]float32{num(minusZero), 1}, []float32{num(0x80000001), 0}),
		curveOf([]float32{1, after(1)}, []float32{-num(greatest), num(greatest)}),
	} {
		back := curveOf(c.Y, c.X)
		wantCurve(t, fmt.Sprintf("BackCurve %v", c), back)(impl.BackCurve(c))
		wantCurve(t, fmt.Sprintf("BackCurve %v", back), c)(impl.BackCurve(back))
	}
	for _, c := range toneCurves()[5:] {
		slices.Sort(c.Y)
		wantCurve(t, fmt.Sprintf("BackCurve %v", c), curveOf(c.Y, c.X))(impl.BackCurve(c))
	}
	for what, bad := range badToneCurves() {
		wantNoCurve(t, "BackCurve of "+what)(impl.BackCurve(bad))
	}
	// Curves that do not rise do not lead back.
	for _, y := range [][]float32{{1, 1, 2}, {0, 1, 1}, {2, 1, 3}, {0, 3, 2}, {0, num(minusZero), 1}, {num(minusZero), 0, 1}, {3, 2, 1}} {
		c := curveOf([]float32{0, 1, 2}, y)
		wantBool(t, fmt.Sprintf("ValidCurve %v", c), impl.ValidCurve(c), true)
		wantNoCurve(t, fmt.Sprintf("BackCurve %v", c))(impl.BackCurve(c))
	}
}

// pressed is a pressed light, each operation of which is rounded.
func pressed(x, white float32) float32 {
	return by(times(x, plus(1, by(x, times(white, white)))), plus(1, x))
}

func TestPressedLight(t *testing.T) {
	zero, tiny, max := num(minusZero), num(tiniest), num(greatest)
	for _, c := range []struct{ x, white, want float32 }{
		{1, 1, 1},
		{0, 1, 0},
		{zero, 1, zero},
		{1, 2, 0.625},
		{3, 3, 1},
		{3, max, 0.75},
		{max, max, 1},
		{0, max, 0},
		// The square of white is infinite, as 32-bit numbers have it.
		{3, 0x1p64, 0.75},
		{tiny, 1, tiny},
	} {
		wantSum(t, fmt.Sprintf("PressedLight %v with %v", c.x, c.white), c.want, true)(impl.PressedLight(c.x, c.white))
	}
	for i, x := range finiteSweep() {
		for _, white := range []float32{1, 0.3, 7, someLights(3000)[i], x, max, 0x1p-63} {
			if white > 0 {
				wantSumIfFinite(t, fmt.Sprintf("PressedLight %v with %v", x, white), pressed(x, white))(impl.PressedLight(x, white))
			}
		}
	}
}

func TestPressedLightFails(t *testing.T) {
	tiny, max := num(tiniest), num(greatest)
	for _, x := range append(notFinite(), -1, num(0x80000001), -max) {
		wantSum(t, fmt.Sprintf("PressedLight %v", x), 0, false)(impl.PressedLight(x, 1))
		wantSum(t, fmt.Sprintf("PressedLight %v with the greatest white", x), 0, false)(impl.PressedLight(x, max))
	}
	for _, white := range unfit() {
		wantSum(t, fmt.Sprintf("PressedLight with %v", white), 0, false)(impl.PressedLight(1, white))
		wantSum(t, fmt.Sprintf("PressedLight 0 with %v", white), 0, false)(impl.PressedLight(0, white))
	}
	wantSum(t, "PressedLight that is infinite", 0, false)(impl.PressedLight(max, 1))
	wantSum(t, "PressedLight with a square of 0", 0, false)(impl.PressedLight(1, tiny))
	wantSum(t, "PressedLight 0 with a square of 0", 0, false)(impl.PressedLight(0, tiny))
}

// filmed is a light as a film has it, each operation of which is rounded.
func filmed(x float32) float32 {
	top := times(x, plus(times(2.51, x), 0.03))
	bottom := plus(times(x, plus(times(2.43, x), 0.59)), 0.14)
	if film := by(top, bottom); !(film > 1) {
		return film
	}
	return 1
}

func TestFilmLight(t *testing.T) {
	zero := num(minusZero)
	for _, c := range [][2]float32{
		{0, 0}, {zero, zero}, {1000, 1}, {1e10, 1}, {1e19, 1},
		// Only what is divided is infinite.
		{1.17e19, 1},
		{num(tiniest), 0},
	} {
		wantSum(t, fmt.Sprintf("FilmLight %v", c[0]), c[1], true)(impl.FilmLight(c[0]))
	}
	for _, x := range append(finiteSweep(), someLights(2000)...) {
		wantSumIfFinite(t, fmt.Sprintf("FilmLight %v", x), filmed(x))(impl.FilmLight(x))
		wantSumIfFinite(t, fmt.Sprintf("FilmLight %v", 9*x), filmed(9*x))(impl.FilmLight(9 * x))
	}
	for _, x := range append(notFinite(), -1, num(0x80000001), -num(greatest)) {
		wantSum(t, fmt.Sprintf("FilmLight %v", x), 0, false)(impl.FilmLight(x))
	}
	for _, x := range []float32{2e19, 1e30, num(greatest)} {
		wantSum(t, fmt.Sprintf("FilmLight %v, of two infinite numbers", x), 0, false)(impl.FilmLight(x))
	}
}

func powered(light, power float32) float32 {
	if light == 0 {
		return 0
	}
	return narrowExp(times(power, narrowLog(light)))
}

func TestPowerPicture(t *testing.T) {
	zero, tiny, max := num(minusZero), num(tiniest), num(greatest)
	wantPicture(t, "PowerPicture of 0 and 1", pictureOf(2, 1, 0, 1))(impl.PowerPicture(pictureOf(2, 1, 0, 1), 2))
	for _, power := range []float32{0, zero, 1, 2, 0.5, -1, -3.3, tiny, 1e-3, 40, 1e30, max, -max, 0.45454547} {
		for _, light := range append(someLights(30), 0, zero, 1, 2, 16, tiny, 0x1p-126, 1e10, max, before(1), after(1)) {
			want := powered(light, power)
			wantIfFinite(t, fmt.Sprintf("PowerPicture of %v, %v", light, power), pictureOf(1, 1, want))(impl.PowerPicture(pictureOf(1, 1, light), power))
		}
		wantPicture(t, fmt.Sprintf("PowerPicture of zeros, %v", power), pictureOf(1, 2, 0, 0))(impl.PowerPicture(pictureOf(1, 2, 0, zero), power))
		wantPicture(t, fmt.Sprintf("PowerPicture of ones, %v", power), pictureOf(1, 2, 1, 1))(impl.PowerPicture(pictureOf(1, 2, 1, 1), power))
	}
	for i, p := range litPictures() {
		for _, power := range []float32{2.2, -0.3} {
			want := changed(p, func(_ int, light float32) float32 { return powered(light, power) })
			wantIfFinite(t, fmt.Sprintf("PowerPicture %d, %v", i, power), want)(impl.PowerPicture(p, power))
		}
	}
}

func TestPowerPictureFails(t *testing.T) {
	for _, power := range notFinite() {
		wantNoPicture(t, fmt.Sprintf("PowerPicture with %v", power))(impl.PowerPicture(pictureOf(2, 1, 1, 2), power))
		wantNoPicture(t, fmt.Sprintf("PowerPicture of 0 with %v", power))(impl.PowerPicture(pictureOf(1, 1, 0), power))
	}
	for what, bad := range badPictures() {
		wantNoPicture(t, "PowerPicture of "+what)(impl.PowerPicture(bad, 1))
	}
	for what, bad := range dimPictures() {
		wantNoPicture(t, "PowerPicture with "+what)(impl.PowerPicture(bad, 1))
	}
	wantNoPicture(t, "PowerPicture with an infinite first light")(impl.PowerPicture(pictureOf(2, 1, 2, 1), 999))
	wantNoPicture(t, "PowerPicture with an infinite last light")(impl.PowerPicture(pictureOf(2, 1, 1, 2), 999))
	wantNoPicture(t, "PowerPicture with an infinite power")(impl.PowerPicture(pictureOf(1, 1, 0.5), -num(greatest)))
}

func logMean(p impl.Picture, small float32) float32 {
	sum := float32(0)
	for _, light := range p.Lights {
		sum = plus(sum, narrowLog(plus(light, small)))
	}
	return narrowExp(by(sum, float32(len(p.Lights))))
}

func TestLogMean(t *testing.T) {
	zero, tiny, max := num(minusZero), num(tiniest), num(greatest)
	for _, p := range append(litPictures(), pictureOf(1, 1, 0), pictureOf(1, 1, zero), pictureOf(2, 1, zero, 0), pictureOf(1, 1, max), pictureOf(2, 1, 0, max)) {
		for _, small := range []float32{0.0009765625, 1, 0.1, tiny, 3e5, 0x1p103, max} {
			what := fmt.Sprintf("LogMean of %d by %d from %v on, with %v", p.Wide, p.High, p.Lights[0], small)
			wantSumIfFinite(t, what, logMean(p, small))(impl.LogMean(p, small))
		}
	}
	for _, light := range []float32{0, 1, 3, 1000} {
		plain := pictureOf(3, 3, repeated(light, 9)...)
		mean, ok := impl.LogMean(plain, 1)
		if !ok || math.Abs(float64(mean)-float64(light)-1) > 1e-4*float64(light+1) {
			t.Errorf("LogMean of a plain picture of %v: got %v, %v", light, mean, ok)
		}
	}
}

func TestLogMeanFails(t *testing.T) {
	max := num(greatest)
	for _, small := range unfit() {
		wantSum(t, fmt.Sprintf("LogMean with %v", small), 0, false)(impl.LogMean(pictureOf(1, 1, 1), small))
	}
	for what, bad := range badPictures() {
		wantSum(t, "LogMean of "+what, 0, false)(impl.LogMean(bad, 1))
	}
	for what, bad := range dimPictures() {
		wantSum(t, "LogMean with "+what, 0, false)(impl.LogMean(bad, 1))
	}
	wantSum(t, "LogMean of a light that small makes 0", 0, false)(impl.LogMean(pictureOf(1, 1, -1), 1))
	wantSum(t, "LogMean of a light that small makes greater", 0, false)(impl.LogMean(pictureOf(1, 1, -1), 5))
	wantSum(t, "LogMean of an infinite sum", 0, false)(impl.LogMean(pictureOf(2, 1, 1, max), max))
}

func TestGlobalTone(t *testing.T) {
	zero, tiny, max := num(minusZero), num(tiniest), num(greatest)
	for i, p := range append(litPictures(), pictureOf(1, 1, 0), pictureOf(2, 1, zero, 3), pictureOf(1, 1, max), pictureOf(2, 1, 0, max)) {
		mean := logMean(p, 0.0009765625)
		if !finite(mean) {
			mean = num(nanBits) // LogMean fails, and so does what takes it
		}
		for _, c := range [][2]float32{{1, 1}, {0.18, 1.7}, {2.5, 0.3}, {tiny, 1}, {max, max}, {3, max}, {1, tiny}} {
			want := changed(p, func(_ int, light float32) float32 { return pressed(times(c[0], by(light, mean)), c[1]) })
			wantIfFinite(t, fmt.Sprintf("GlobalTone %d with %v", i, c), want)(impl.GlobalTone(p, c[0], c[1]))
		}
	}
}

func TestGlobalToneFails(t *testing.T) {
	max, p := num(greatest), pictureOf(2, 1, 1, 2)
	for _, x := range unfit() {
		wantNoPicture(t, fmt.Sprintf("GlobalTone with the key %v", x))(impl.GlobalTone(p, x, 1))
		wantNoPicture(t, fmt.Sprintf("GlobalTone with the white %v", x))(impl.GlobalTone(p, 1, x))
		wantNoPicture(t, fmt.Sprintf("GlobalTone of 0 with the white %v", x))(impl.GlobalTone(pictureOf(1, 1, 0), 1, x))
		wantNoPicture(t, fmt.Sprintf("GlobalTone of 0 with the key %v", x))(impl.GlobalTone(pictureOf(1, 1, 0), x, 1))
	}
	for what, bad := range badPictures() {
		wantNoPicture(t, "GlobalTone of "+what)(impl.GlobalTone(bad, 1, 1))
	}
	for what, bad := range dimPictures() {
		wantNoPicture(t, "GlobalTone with "+what)(impl.GlobalTone(bad, 1, 1))
	}
	wantNoPicture(t, "GlobalTone of an infinite product")(impl.GlobalTone(pictureOf(2, 1, 0, 1), max, max))
	wantNoPicture(t, "GlobalTone of a light without a LogMean")(impl.GlobalTone(pictureOf(1, 1, max), 1, 1))
	wantNoPicture(t, "GlobalTone that is infinite")(impl.GlobalTone(pictureOf(2, 1, 0, 1), 0x1p100, 0x1p-20))
}
