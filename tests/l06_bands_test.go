package tests

import (
	"fmt"
	"math"
	"slices"
	"testing"

	"loop.example/g01308/impl"
)

// waves are nine numbers, or none where a way has no unit way.
func waves(w impl.Way) []float32 {
	unit := unitOf(w)
	if !isFit(unit) {
		return nil
	}
	x, y, z := unit.X, unit.Y, unit.Z
	return []float32{
		0.2820948,
		times(0.48860252, y),
		times(0.48860252, z),
		times(0.48860252, x),
		times(times(1.0925485, x), y),
		times(times(1.0925485, y), z),
		times(0.31539157, less(times(times(3, z), z), 1)),
		times(times(1.0925485, x), z),
		times(0.54627424, less(times(x, x), times(y, y))),
	}
}

func TestWavesAt(t *testing.T) {
	zero := num(minusZero)
	low, high := -float32(0.31539157), times(0.31539157, 2)
	wantNumbers(t, "WavesAt up", 0.2820948, 0, 0.48860252, 0, 0, 0, high, 0, 0)(impl.WavesAt(impl.Way{Z: 1}))
	wantNumbers(t, "WavesAt down", 0.2820948, 0, -0.48860252, 0, 0, zero, high, zero, 0)(impl.WavesAt(impl.Way{Z: -7}))
	wantNumbers(t, "WavesAt X", 0.2820948, 0, 0, 0.48860252, 0, 0, low, 0, 0.54627424)(impl.WavesAt(impl.Way{X: 2}))
	wantNumbers(t, "WavesAt Y", 0.2820948, 0.48860252, 0, 0, 0, 0, low, 0, -0.54627424)(impl.WavesAt(impl.Way{Y: 0.5}))
	wantNumbers(t, "WavesAt -0", 0.2820948, times(0.48860252, zero), times(0.48860252, zero), -0.48860252, 0, 0, low, 0, 0.54627424)(impl.WavesAt(impl.Way{X: -1, Y: zero, Z: zero}))
	for _, w := range append(ways(), badWays()...) {
		want := waves(w)
		if isFit(w) && want != nil {
			wantNumbers(t, fmt.Sprintf("WavesAt %v", w), want...)(impl.WavesAt(w))
		} else {
			wantNoList[float32](t, fmt.Sprintf("WavesAt %v", w))(impl.WavesAt(w))
		}
	}
}

func bandsOf(p impl.Picture) []float32 {
	sums := make([]float32, 9)
	for i, light := range p.Lights {
		x, y := int64(i)%p.Wide, int64(i)/p.Wide
		for k, wave := range waves(pixelWay(p.Wide, p.High, x, y)) {
			sums[k] = plus(sums[k], times(times(light, solid(p.High, p.Wide, y)), wave))
		}
	}
	return sums
}

func TestBandsOf(t *testing.T) {
	for i, p := range append(tonePictures(), allPictures()...) {
		wantNumbersIfFinite(t, fmt.Sprintf("BandsOf %d", i), bandsOf(p))(impl.BandsOf(p))
	}
	wantNumbers(t, "BandsOf a dark sphere", make([]float32, 9)...)(impl.BandsOf(pictureOf(2, 1, num(minusZero), 0)))
	for what, bad := range badPictures() {
		wantNoList[float32](t, "BandsOf "+what)(impl.BandsOf(bad))
	}
	wantNoList[float32](t, "BandsOf an infinite product")(impl.BandsOf(pictureOf(1, 1, num(greatest))))
	// The products are finite, and of the sums only the first one is infinite.
	wantNoList[float32](t, "BandsOf an infinite sum")(impl.BandsOf(pictureOf(2, 2, repeated(0.3*num(greatest), 4)...)))
	plain, _ := impl.PlainPicture(16, 16, 1)
	bands, _ := impl.BandsOf(plain)
	for k, x := range bands {
		if want := []float64{math.Sqrt(4 * math.Pi), 0, 0, 0, 0, 0, 0, 0, 0}[k]; math.Abs(float64(x)-want) > 0.02 {
			t.Errorf("BandsOf a plain sphere: the band %d is %v, want nearly %v", k, x, want)
		}
	}
}

func bandPowers(b []float32) []float32 {
	var powers []float32
	for _, band := range [][]float32{b[:1], b[1:4], b[4:9]} {
		sum := float32(0)
		for _, x := range band {
			sum = plus(sum, times(x, x))
		}
		powers = append(powers, sum)
	}
	return powers
}

func TestBandPowers(t *testing.T) {
	max := num(greatest)
	wantNumbers(t, "BandPowers", 1, 29, 255)(impl.BandPowers(kernelOf(1, 2, 3, 4, 5, 6, 7, 8, 9)))
	wantNumbers(t, "BandPowers of opposites", 1, 29, 255)(impl.BandPowers(kernelOf(-1, 2, -3, 4, -5, 6, -7, 8, -9)))
	wantNumbers(t, "BandPowers of -0", 0, 0, 0)(impl.BandPowers(repeated(num(minusZero), 9)))
	// Sums go in order: what is too little to change them would do so together.
	wantNumbers(t, "BandPowers in order", 0, 1, 1)(impl.BandPowers(kernelOf(0, 1, 0x1p-12, 0x1p-12, 1, 0x1p-12, 0x1p-12, 0x1p-12, 0x1p-12)))
	wantNumbers(t, "BandPowers in the other order", 0, 1+0x1p-23, 1+0x1p-22)(impl.BandPowers(kernelOf(0, 0x1p-12, 0x1p-12, 1, 0x1p-12, 0x1p-12, 0x1p-12, 0x1p-12, 1)))
	for _, b := range bandLists() {
		wantNumbersIfFinite(t, fmt.Sprintf("BandPowers %v", b), bandPowers(b))(impl.BandPowers(b))
	}
	for what, bad := range badBands() {
		wantNoList[float32](t, "BandPowers of "+what)(impl.BandPowers(bad))
	}
	wantNoList[float32](t, "BandPowers of nil")(impl.BandPowers(nil))
	for at := range 9 {
		b := kernelOf(make([]float32, 9)...)
		b[at] = -max
		wantNoList[float32](t, fmt.Sprintf("BandPowers with an infinite square of %d", at))(impl.BandPowers(b))
	}
	wantNoList[float32](t, "BandPowers with an infinite sum")(impl.BandPowers(kernelOf(1, 1.5e19, 1.5e19, 0, 0, 0, 0, 0, 0)))
}

func turnedBands(b []float32, turn float32) []float32 {
	list := slices.Clone(b)
	list[1], list[3] = turnedTest(b[1], b[3], turn)
	list[5], list[7] = turnedTest(b[5], b[7], turn)
	list[4], list[8] = turnedTest(b[4], b[8], times(2, turn))
	return list
}

func TestTurnBands(t *testing.T) {
	b := kernelOf(1, 2, 3, 4, 5, 6, 7, 8, 9)
	wantNumbers(t, "TurnBands by 0", b...)(impl.TurnBands(b, 0))
	wantNumbers(t, "TurnBands by a quarter", 1, -4, 3, 2, -5, -8, 7, 6, -9)(impl.TurnBands(b, 0.25))
	wantNumbers(t, "TurnBands back by a quarter", 1, 4, 3, -2, -5, 8, 7, -6, -9)(impl.TurnBands(b, -0.25))
	wantNumbers(t, "TurnBands by an eighth", 1, turnedBands(b, 0.125)[1], 3, turnedBands(b, 0.125)[3], -9, turnedBands(b, 0.125)[5], 7, turnedBands(b, 0.125)[7], 5)(impl.TurnBands(b, 0.125))
	wantNumbers(t, "TurnBands by a half", 1, -2, 3, -4, 5, -6, 7, -8, 9)(impl.TurnBands(b, 0.5))
	wantNumbers(t, "TurnBands by a whole turn", b...)(impl.TurnBands(b, 1))
	wantNumbers(t, "TurnBands by a whole turn back", b...)(impl.TurnBands(b, -1))
	wantNumbers(t, "TurnBands by very many turns", 1, 0, 3, 0, 0, 0, 7, 0, 0)(impl.TurnBands(b, 0x1p52))
	for _, b := range bandLists() {
		for _, turn := range turns() {
			what := fmt.Sprintf("TurnBands %v by %v", b, turn)
			wantNumbersIfFinite(t, what, turnedBands(b, turn))(impl.TurnBands(b, turn))
		}
		for _, turn := range notFinite() {
			wantNoList[float32](t, fmt.Sprintf("TurnBands %v by %v", b, turn))(impl.TurnBands(b, turn))
		}
	}
	for what, bad := range badBands() {
		for _, turn := range []float32{0, 0.3, 0x1p52} {
			wantNoList[float32](t, "TurnBands of "+what)(impl.TurnBands(bad, turn))
		}
	}
	wantNoList[float32](t, "TurnBands of nil")(impl.TurnBands(nil, 0))
	// Twice these turns are infinite, which has no sine.
	wantNoList[float32](t, "TurnBands by the most turns")(impl.TurnBands(b, num(greatest)))
	wantNoList[float32](t, "TurnBands of 0 by the most turns")(impl.TurnBands(make([]float32, 9), 0x1p127))
	wantNumbers(t, "TurnBands by nearly the most turns", 1, 0, 3, 0, 0, 0, 7, 0, 0)(impl.TurnBands(b, before(0x1p127)))
}

// One half of promise 7: a sphere that is turned by whole pixels has the bands of TurnBands, and the same powers.
func TestTurnedSpheresHaveTheSameBands(t *testing.T) {
	for i, p := range allPictures() {
		before, _ := impl.BandsOf(p)
		powers, _ := impl.BandPowers(before)
		for _, pixels := range []int64{0, 1, -1, 2, 5, p.Wide, -3 * p.Wide} {
			turn := by(float32(pixels), float32(p.Wide))
			sphere, _ := impl.TurnSphere(p, turn)
			after, _ := impl.BandsOf(sphere)
			want, _ := impl.TurnBands(before, turn)
			afterPowers, ok := impl.BandPowers(after)
			if !ok || len(want) != 9 {
				t.Fatalf("the sphere %d turned by %v: a function fails", i, turn)
			}
			for k, x := range after {
				if math.Abs(float64(x)-float64(want[k])) > 2e-4 {
					t.Errorf("the sphere %d turned by %v: the band %d is %v, want nearly %v", i, turn, k, x, want[k])
				}
			}
			for k, x := range afterPowers {
				if math.Abs(float64(x)-float64(powers[k])) > 2e-4*(1+float64(powers[0])) {
					t.Errorf("the sphere %d turned by %v: the power %d is %v, want nearly %v", i, turn, k, x, powers[k])
				}
			}
		}
	}
}

func TestTurnedBandsHaveTheSamePowers(t *testing.T) {
	lights := someLights(300)
	for i := range 30 {
		b := kernelOf(lights[9*i : 9*i+9]...)
		for _, turn := range []float32{0.1, -0.37, 0.25, 1, 3.3, 0.0625} {
			turned, _ := impl.TurnBands(b, turn)
			got, _ := impl.BandPowers(turned)
			want, ok := impl.BandPowers(b)
			for k := range want {
				if !ok || !isNear(got[k], want[k], 1e-5) {
					t.Errorf("BandPowers of %v turned by %v: got %v, want nearly %v", b, turn, got, want)
				}
			}
		}
	}
}

func fromBands(b []float32, wide, high int64) impl.Picture {
	return fromLights(wide, high, func(x, y int64) float32 {
		sum := float32(0)
		for k, wave := range waves(pixelWay(wide, high, x, y)) {
			sum = plus(sum, times(b[k], wave))
		}
		return sum
	})
}

func TestFromBands(t *testing.T) {
	wantPicture(t, "FromBands of the first band", pictureOf(2, 1, 0.2820948, 0.2820948))(impl.FromBands(kernelOf(1, 0, 0, 0, 0, 0, 0, 0, 0), 2, 1))
	wantPicture(t, "FromBands of Y", pictureOf(2, 1, 0.48860252, -0.48860252))(impl.FromBands(kernelOf(0, 1, 0, 0, 0, 0, 0, 0, 0), 2, 1))
	wantPicture(t, "FromBands of X", pictureOf(1, 1, -2*0.48860252))(impl.FromBands(kernelOf(0, 0, 0, 2, 0, 0, 0, 0, 0), 1, 1))
	wantPicture(t, "FromBands of nothing", pictureOf(2, 2, 0, 0, 0, 0))(impl.FromBands(repeated(num(minusZero), 9), 2, 2))
	for i, b := range bandLists() {
		for _, s := range toneSides() {
			wantIfFinite(t, fmt.Sprintf("FromBands %d to %v", i, s), fromBands(b, s[0], s[1]))(impl.FromBands(b, s[0], s[1]))
		}
		for _, s := range badSides() {
			wantNoPicture(t, fmt.Sprintf("FromBands %d to %v", i, s))(impl.FromBands(b, s[0], s[1]))
		}
	}
	for wide := int64(1); wide <= 16; wide++ {
		for high := int64(1); high <= 16; high++ {
			b := bandLists()[17]
			wantPicture(t, fmt.Sprintf("FromBands to %d by %d", wide, high), fromBands(b, wide, high))(impl.FromBands(b, wide, high))
		}
	}
	for what, bad := range badBands() {
		wantNoPicture(t, "FromBands of "+what)(impl.FromBands(bad, 2, 2))
	}
	wantNoPicture(t, "FromBands of nil")(impl.FromBands(nil, 2, 2))
	// The sums are infinite, but no product is.
	wantNoPicture(t, "FromBands with infinite sums")(impl.FromBands(repeated(num(greatest), 9), 4, 2))
}

// Nearly, since the waves of a sphere of pixels are not quite at right angles.
func TestBandsOfFromBands(t *testing.T) {
	for k := range 9 {
		b := kernelOf(make([]float32, 9)...)
		b[k] = 1
		sphere, _ := impl.FromBands(b, 16, 16)
		got, ok := impl.BandsOf(sphere)
		for i, x := range got {
			if !ok || math.Abs(float64(x)-float64(b[i])) > 0.02 {
				t.Errorf("BandsOf FromBands of the wave %d: got %v", k, got)
			}
		}
	}
}

// surface is a not-a-number where a way has no waves.
func surface(b []float32, w impl.Way) float32 {
	list := waves(w)
	if list == nil || !isFit(w) {
		return num(nanBits)
	}
	factors := []float32{3.1415927, 2.0943952, 2.0943952, 2.0943952, 0.7853982, 0.7853982, 0.7853982, 0.7853982, 0.7853982}
	sum := float32(0)
	for k, wave := range list {
		sum = plus(sum, times(times(b[k], wave), factors[k]))
	}
	return sum
}

func TestSurfaceLight(t *testing.T) {
	unitBand := func(k int) []float32 {
		b := kernelOf(make([]float32, 9)...)
		b[k] = 1
		return b
	}
	wantSum(t, "SurfaceLight of the first band", times(0.2820948, 3.1415927), true)(impl.SurfaceLight(unitBand(0), impl.Way{X: 1, Y: 2, Z: 3}))
	wantSum(t, "SurfaceLight of Y", times(0.48860252, 2.0943952), true)(impl.SurfaceLight(unitBand(1), impl.Way{Y: 3}))
	wantSum(t, "SurfaceLight of Z", times(-0.48860252, 2.0943952), true)(impl.SurfaceLight(unitBand(2), impl.Way{Z: -3}))
	wantSum(t, "SurfaceLight of X", times(0.48860252, 2.0943952), true)(impl.SurfaceLight(unitBand(3), impl.Way{X: 3}))
	wantSum(t, "SurfaceLight of the last band", times(-0.54627424, 0.7853982), true)(impl.SurfaceLight(unitBand(8), impl.Way{Y: 3}))
	wantSum(t, "SurfaceLight of -0", 0, true)(impl.SurfaceLight(repeated(num(minusZero), 9), impl.Way{X: 1, Y: 1, Z: 1}))
	list := ways()
	for i, b := range bandLists() {
		for k := i % 11; k < len(list); k += 11 {
			wantSumIfFinite(t, fmt.Sprintf("SurfaceLight of %v along %v", b, list[k]), surface(b, list[k]))(impl.SurfaceLight(b, list[k]))
		}
		for _, w := range fewWays() {
			wantSumIfFinite(t, fmt.Sprintf("SurfaceLight of %v along %v", b, w), surface(b, w))(impl.SurfaceLight(b, w))
		}
		for _, bad := range badWays() {
			wantSum(t, fmt.Sprintf("SurfaceLight of %v along %v", b, bad), 0, false)(impl.SurfaceLight(b, bad))
		}
	}
	for what, bad := range badBands() {
		wantSum(t, "SurfaceLight of "+what, 0, false)(impl.SurfaceLight(bad, impl.Way{X: 1, Y: 1, Z: 1}))
	}
	wantSum(t, "SurfaceLight of nil", 0, false)(impl.SurfaceLight(nil, impl.Way{Z: 1}))
	wantSum(t, "SurfaceLight along a way that is too long", 0, false)(impl.SurfaceLight(make([]float32, 9), impl.Way{X: 0x1p64}))
	wantSum(t, "SurfaceLight along a way that is too short", 0, false)(impl.SurfaceLight(make([]float32, 9), impl.Way{X: 0x1p-75}))
	wantSum(t, "SurfaceLight that is infinite", 0, false)(impl.SurfaceLight(repeated(num(greatest), 9), impl.Way{X: 1, Y: 1, Z: 1}))
}

// direct is a not-a-number where a way has no unit way.
func direct(p impl.Picture, w impl.Way) float32 {
	unit, sum := unitOf(w), float32(0)
	if !isFit(unit) || !isFit(w) {
		return num(nanBits)
	}
	for i, light := range p.Lights {
		x, y := int64(i)%p.Wide, int64(i)/p.Wide
		if share := inner(unit, pixelWay(p.Wide, p.High, x, y)); share > 0 {
			sum = plus(sum, times(times(light, solid(p.High, p.Wide, y)), share))
		}
	}
	return sum
}

func TestDirectLight(t *testing.T) {
	max := num(greatest)
	one := pictureOf(1, 1, 2)
	wantSum(t, "DirectLight from ahead", 25.132742, true)(impl.DirectLight(one, impl.Way{X: -3}))
	wantSum(t, "DirectLight from behind", 0, true)(impl.DirectLight(one, impl.Way{X: 3}))
	wantSum(t, "DirectLight along a surface", 0, true)(impl.DirectLight(one, impl.Way{Y: 1}))
	wantSum(t, "DirectLight from below", times(times(2, solid(2, 1, 1)), root(0.5)), true)(impl.DirectLight(pictureOf(1, 2, 1, 2), impl.Way{Z: -1}))
	// A surface that looks away gets nothing, even of a light that is infinite with what it takes of the sphere.
	wantSum(t, "DirectLight of the greatest light behind", 0, true)(impl.DirectLight(pictureOf(1, 1, max), impl.Way{X: 1}))
	wantSum(t, "DirectLight of the greatest light along a surface", 0, true)(impl.DirectLight(pictureOf(1, 1, max), impl.Way{Y: 1}))
	wantSum(t, "DirectLight of the greatest light ahead", 0, false)(impl.DirectLight(pictureOf(1, 1, max), impl.Way{X: -1}))
	wantSum(t, "DirectLight with an infinite sum", 0, false)(impl.DirectLight(pictureOf(2, 2, max/4, max/4, 0, 0), impl.Way{Z: 1}))
	wantSum(t, "DirectLight with an infinite sum on the way", 0, false)(impl.DirectLight(pictureOf(4, 2, max/3, max/3, max/3, -max/3, 0, 0, 0, 0), impl.Way{Z: 1}))
	for i, p := range tonePictures() {
		for k, w := range fewWays() {
			if k%5 == i%5 {
				wantSumIfFinite(t, fmt.Sprintf("DirectLight of %d along %v", i, w), direct(p, w))(impl.DirectLight(p, w))
			}
		}
		for _, bad := range badWays() {
			wantSum(t, fmt.Sprintf("DirectLight of %d along %v", i, bad), 0, false)(impl.DirectLight(p, bad))
		}
	}
	for _, w := range ways() {
		p := pictureOf(3, 2, 1, -2, 3, 4, 5, 6)
		wantSumIfFinite(t, fmt.Sprintf("DirectLight along %v", w), direct(p, w))(impl.DirectLight(p, w))
	}
	for what, bad := range badPictures() {
		wantSum(t, "DirectLight of "+what, 0, false)(impl.DirectLight(bad, impl.Way{X: 1, Y: 1, Z: 1}))
	}
	wantSum(t, "DirectLight along a way that is too long", 0, false)(impl.DirectLight(one, impl.Way{Z: 0x1p64}))
	wantSum(t, "DirectLight along a way that is too short", 0, false)(impl.DirectLight(one, impl.Way{Z: 0x1p-75}))
}

// Half a sphere of the light 1 gives a surface the light Pi, either way.
func TestPlainSpheresLightSurfaces(t *testing.T) {
	plain, _ := impl.PlainPicture(16, 16, 1)
	bands, _ := impl.BandsOf(plain)
	for _, w := range fewWays() {
		byBands, ok := impl.SurfaceLight(bands, w)
		byPixels, too := impl.DirectLight(plain, w)
		if !ok || !too || !isNear(byBands, math.Pi, 0.01) || !isNear(byPixels, math.Pi, 0.02) {
			t.Errorf("a surface that looks along %v gets %v by bands and %v by pixels", w, byBands, byPixels)
		}
	}
}

func ball(b []float32, side int64) impl.Picture {
	return fromLights(side, side, func(x, y int64) float32 {
		across, down := alongTest(x, side), alongTest(y, side)
		q := less(less(1, times(across, across)), times(down, down))
		if q < 0 {
			return 0
		}
		return surface(b, impl.Way{X: across, Y: down, Z: root(q)})
	})
}

func TestBallPicture(t *testing.T) {
	even, up := times(0.2820948, 3.1415927), times(0.48860252, 2.0943952)
	wantPicture(t, "BallPicture of one pixel", pictureOf(1, 1, even))(impl.BallPicture(kernelOf(1, 0, 0, 0, 0, 0, 0, 0, 0), 1))
	wantPicture(t, "BallPicture of one pixel, from above", pictureOf(1, 1, up))(impl.BallPicture(kernelOf(0, 0, 1, 0, 0, 0, 0, 0, 0), 1))
	wantPicture(t, "BallPicture of 4 by 4 pixels: its corners lie outside", pictureOf(4, 4,
		0, even, even, 0, even, even, even, even, even, even, even, even, 0, even, even, 0))(impl.BallPicture(kernelOf(1, 0, 0, 0, 0, 0, 0, 0, 0), 4))
	wantPicture(t, "BallPicture in no light", pictureOf(2, 2, 0, 0, 0, 0))(impl.BallPicture(make([]float32, 9), 2))
	for i, b := range bandLists() {
		for side := int64(1); side <= 16; side++ {
			wantIfFinite(t, fmt.Sprintf("BallPicture %d of the side %d", i, side), ball(b, side))(impl.BallPicture(b, side))
		}
		for _, side := range []int64{math.MinInt64, -1, 0, 17, math.MaxInt64} {
			wantNoPicture(t, fmt.Sprintf("BallPicture %d of the side %d", i, side))(impl.BallPicture(b, side))
		}
	}
	for what, bad := range badBands() {
		for side := int64(0); side <= 17; side++ {
			wantNoPicture(t, "BallPicture of "+what)(impl.BallPicture(bad, side))
		}
	}
	wantNoPicture(t, "BallPicture of nil")(impl.BallPicture(nil, 1))
	wantNoPicture(t, "BallPicture that is infinite")(impl.BallPicture(repeated(num(greatest), 9), 3))
}
