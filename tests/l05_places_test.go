package tests

import (
	"fmt"
	"math"
	"testing"

	"loop.example/g01308/impl"
)

// powerAt is computed with 64-bit numbers, in which the squares are exact.
func powerAt(at complex64) float32 {
	a, b := float64(real(at)), float64(imag(at))
	return float32(a*a + b*b)
}

func scaled(at complex64, factor float32) complex64 {
	return complex(times(real(at), factor), times(imag(at), factor))
}

func bent(at complex64, bend float32) complex64 {
	return scaled(at, plus(1, times(bend, powerAt(at))))
}

func unbent(at complex64, bend float32) complex64 {
	z := at
	for range 40 {
		z = scaled(at, by(1, plus(1, times(bend, powerAt(z)))))
	}
	return z
}

// parts are numbers from -1 to 1, both of which are among them.
func parts() []float32 {
	list := []float32{0, num(minusZero), 1, -1, 0.5, -0.5, before(1), -before(1), num(tiniest), 0x1p-126, -0x1p-70}
	for _, x := range someLights(20) {
		list = append(list, x, -x)
	}
	return list
}

func bends() []float32 {
	return []float32{0, num(minusZero), 0.25, -0.25, 0.1, -0.1, before(0.25), -before(0.25), num(tiniest), 0.003}
}

// badBends are not finite, or farther from 0 than 0.25.
func badBends() []float32 {
	return append(notFinite(), after(0.25), -after(0.25), 1, -1, num(greatest), -num(greatest))
}

// badPlaces have a part that is not finite, or farther from 0 than most.
func badPlaces(most float32) []complex64 {
	var list []complex64
	for _, x := range append(notFinite(), after(most), -after(most), num(greatest), -num(greatest)) {
		list = append(list, complex(x, 0), complex(0, x), complex(x, x), complex(x, 0.5), complex(0.5, x))
	}
	return list
}

func TestBendPlace(t *testing.T) {
	zero := num(minusZero)
	for _, c := range []struct {
		at   complex64
		bend float32
		want complex64
	}{
		{0.5, 0.25, 0.53125},
		{1, 0.25, 1.25},
		{-1, 0.25, -1.25},
		{1i, -0.25, 0.75i},
		{complex(1, 1), 0.25, complex(1.5, 1.5)},
		{complex(-1, 1), -0.25, complex(-0.5, 0.5)},
		{complex(1, -1), 0, complex(1, -1)},
		{complex(zero, 1), 0.25, complex(zero, 1.25)},
		{complex(zero, zero), -0.25, complex(zero, zero)},
		{0, 0.25, 0},
	} {
		wantComplexSum(t, fmt.Sprintf("BendPlace %v by %v", c.at, c.bend), c.want, true)(impl.BendPlace(c.at, c.bend))
	}
	for _, x := range parts() {
		for _, y := range parts() {
			for _, bend := range bends() {
				at := complex(x, y)
				wantComplexSum(t, fmt.Sprintf("BendPlace %v by %v", at, bend), bent(at, bend), true)(impl.BendPlace(at, bend))
			}
		}
	}
}

func TestUnbendPlace(t *testing.T) {
	zero := num(minusZero)
	for _, c := range []struct {
		at   complex64
		bend float32
		want complex64
	}{
		{0.5, 0, 0.5},
		{complex(-1, 1), 0, complex(-1, 1)},
		{complex(zero, 0.25), 0, complex(zero, 0.25)},
		{complex(zero, zero), 0.25, complex(zero, zero)},
		// This place goes to 2 + 2 i and back, 20 times.
		{complex(1, 1), -0.25, complex(-1, -1)},
		{complex(1, -1), -0.25, complex(-1, 1)},
	} {
		wantComplexSum(t, fmt.Sprintf("UnbendPlace %v by %v", c.at, c.bend), c.want, true)(impl.UnbendPlace(c.at, c.bend))
	}
	for _, x := range parts() {
		for _, y := range parts() {
			for _, bend := range bends() {
				at := complex(x, y)
				wantComplexSum(t, fmt.Sprintf("UnbendPlace %v by %v", at, bend), unbent(at, bend), true)(impl.UnbendPlace(at, bend))
			}
		}
	}
	// A place whose power is 4 on the way goes to infinity: with a part of 0 for ever, and others just in the end.
	for _, at := range []complex64{
		complex(num(0x3f4d8f54), 0), complex(0, num(0x3f6f8787)), complex(-num(0x3f6f8787), 0), complex(num(0x3f4be2d0), num(0x3efb6f44)), complex(-num(0x3f5da5a2), num(0x3eb5a018)),
	} {
		wantComplexSum(t, fmt.Sprintf("UnbendPlace %v to no finite place", at), 0, false)(impl.UnbendPlace(at, -0.25))
	}
}

func TestUnbendPlaceLeadsBack(t *testing.T) {
	for _, x := range parts() {
		for _, y := range parts() {
			for _, bend := range []float32{0, 0.05, -0.05, 0.1, -0.1, 0.2} {
				at := complex(x*0.7, y*0.7)
				there, _ := impl.BendPlace(at, bend)
				back, ok := impl.UnbendPlace(there, bend)
				if d := back - at; !ok || math.Hypot(float64(real(d)), float64(imag(d))) > 1e-5 {
					t.Errorf("UnbendPlace of BendPlace %v by %v: got %v, %v", at, bend, back, ok)
				}
			}
		}
	}
}

func TestBendsFail(t *testing.T) {
	for _, at := range badPlaces(1) {
		for _, bend := range bends() {
			wantComplexSum(t, fmt.Sprintf("BendPlace %v by %v", at, bend), 0, false)(impl.BendPlace(at, bend))
			wantComplexSum(t, fmt.Sprintf("UnbendPlace %v by %v", at, bend), 0, false)(impl.UnbendPlace(at, bend))
		}
	}
	for _, bend := range badBends() {
		for _, at := range []complex64{0, 0.5, complex(1, -1)} {
			wantComplexSum(t, fmt.Sprintf("BendPlace %v by %v", at, bend), 0, false)(impl.BendPlace(at, bend))
			wantComplexSum(t, fmt.Sprintf("UnbendPlace %v by %v", at, bend), 0, false)(impl.UnbendPlace(at, bend))
		}
		wantNoPicture(t, fmt.Sprintf("WarpPicture by %v", bend))(impl.WarpPicture(nine(), bend))
	}
	for what, bad := range badPictures() {
		wantNoPicture(t, "WarpPicture of "+what)(impl.WarpPicture(bad, 0.1))
	}
}

// sampled is a light between four others.
func sampled(p impl.Picture, at complex64) float32 {
	i, j := int64(math.Floor(float64(real(at)))), int64(math.Floor(float64(imag(at))))
	f, g := less(real(at), float32(i)), less(imag(at), float32(j))
	a, b := pixelNear(p, i, j), pixelNear(p, i+1, j)
	c, d := pixelNear(p, i, j+1), pixelNear(p, i+1, j+1)
	u, v := plus(a, times(f, less(b, a))), plus(c, times(f, less(d, c)))
	return plus(u, times(g, less(v, u)))
}

// places are among and beside the pixels, and as far away as allowed.
func places() []complex64 {
	list := []float32{
		0, num(minusZero), 1, -1, 2, -2, 0.5, -0.5, 0.25, 1.75, -0.25, before(1), after(1), -before(1), -after(1), num(tiniest), num(0x80000001), -0x1p-30,
		14.5, 15, 15.5, 16, 17.3, -16.7, 999.5, 1000, -1000, -999.5,
	}
	for _, x := range someLights(12) {
		list = append(list, 17*x-0.6)
	}
	var all []complex64
	for _, x := range list {
		for _, y := range list {
			all = append(all, complex(x, y))
		}
	}
	return all
}

func TestSampleAt(t *testing.T) {
	max := num(greatest)
	four := pictureOf(2, 2, 1, 3, 5, 11)
	for _, c := range []struct {
		at   complex64
		want float32
	}{
		{0, 1}, {0.5, 2}, {0.5i, 3}, {complex(0.5, 0.5), 5}, {complex(0.25, 0.75), 5.25}, {1, 3}, {complex(1, 1), 11}, {1i, 5}, {complex(1, 0.5), 7},
		{-0.5, 1}, {-1, 1}, {complex(-7, 0.5), 3}, {1.5, 3}, {2, 3}, {complex(0.5, -0.5), 2}, {complex(0.5, -3), 2}, {complex(0.5, 1.5), 8}, {complex(0.5, 9), 8},
		{complex(1000, 1000), 11}, {complex(-1000, -1000), 1}, {complex(1000, -1000), 3}, {complex(-1000, 1000), 5}, {complex(-0.25, 0.25), 2},
	} {
		wantSum(t, fmt.Sprintf("SampleAt %v", c.at), c.want, true)(impl.SampleAt(four, c.at))
	}
	wantSum(t, "SampleAt between two lights", 2, true)(impl.SampleAt(pictureOf(2, 1, 1, 3), 0.5))
	wantSum(t, "SampleAt one pixel", 7, true)(impl.SampleAt(pictureOf(1, 1, 7), complex(-0.3, 0.3)))
	for i, p := range tonePictures() {
		for k, at := range places() {
			if k%5 == i%5 {
				wantSumIfFinite(t, fmt.Sprintf("SampleAt %d, %v", i, at), sampled(p, at))(impl.SampleAt(p, at))
			}
		}
	}
	for what, bad := range badPictures() {
		wantSum(t, "SampleAt of "+what, 0, false)(impl.SampleAt(bad, 0))
	}
	for _, at := range badPlaces(1000) {
		wantSum(t, fmt.Sprintf("SampleAt %v", at), 0, false)(impl.SampleAt(four, at))
	}
	// A difference that is infinite is not finite in any share, but the pixel behind the right end is the last one.
	wide := pictureOf(2, 1, -max, max)
	for _, at := range []complex64{0, 0.5} {
		wantSum(t, fmt.Sprintf("SampleAt %v between far lights", at), 0, false)(impl.SampleAt(wide, at))
	}
	wantSum(t, "SampleAt the last one of far lights", max, true)(impl.SampleAt(wide, 1))
	wantSum(t, "SampleAt in front of far lights", -max, true)(impl.SampleAt(wide, -1))
	wantSum(t, "SampleAt between far rows", 0, false)(impl.SampleAt(pictureOf(1, 2, -max, max), 0))
}

func warped(p impl.Picture, bend float32) impl.Picture {
	return changed(p, func(i int, _ float32) float32 {
		a, b := farFromMiddle(p, i)
		z := bent(complex(a, b), bend)
		x := by(less(times(plus(real(z), 1), float32(p.Wide)), 1), 2)
		y := by(less(times(plus(imag(z), 1), float32(p.High)), 1), 2)
		return sampled(p, complex(x, y))
	})
}

func TestWarpPicture(t *testing.T) {
	max := num(greatest)
	wantPicture(t, "WarpPicture of one pixel", pictureOf(1, 1, 7))(impl.WarpPicture(pictureOf(1, 1, 7), 0.25))
	wantPicture(t, "WarpPicture of a plain picture", pictureOf(2, 1, 2, 2))(impl.WarpPicture(pictureOf(2, 1, 2, 2), 0.25))
	// 0.5 goes to 0.53125, and this place has the part 1.03125, beyond the last pixel; back, it is 0.96875.
	wantPicture(t, "WarpPicture outwards", pictureOf(2, 1, 0, 8))(impl.WarpPicture(pictureOf(2, 1, 0, 8), 0.25))
	wantPicture(t, "WarpPicture inwards", pictureOf(2, 1, 0.25, 7.75))(impl.WarpPicture(pictureOf(2, 1, 0, 8), -0.25))
	wantPicture(t, "WarpPicture of a column", pictureOf(1, 2, 0.25, 7.75))(impl.WarpPicture(pictureOf(1, 2, 0, 8), -0.25))
	// The sides are powers of two, so that the places of all pixels are exact.
	p := steps(16, 8, 1, 0.5)
	wantPicture(t, "WarpPicture by 0", p)(impl.WarpPicture(p, 0))
	wantPicture(t, "WarpPicture by -0", p)(impl.WarpPicture(p, num(minusZero)))
	for i, p := range append(tonePictures(), allPictures()[:120]...) {
		for _, bend := range bends() {
			wantIfFinite(t, fmt.Sprintf("WarpPicture %d by %v", i, bend), warped(p, bend))(impl.WarpPicture(p, bend))
		}
	}
	wantNoPicture(t, "WarpPicture of far lights")(impl.WarpPicture(pictureOf(2, 1, -max, max), -0.25))
}

// product is that of two complex numbers, narrowed in the end; products of 32-bit numbers are exact.
func product(x, y complex64) complex64 {
	a, b, c, d := float64(real(x)), float64(imag(x)), float64(real(y)), float64(imag(y))
	return complex(float32(a*c-b*d), float32(a*d+b*c))
}

func spotBehind(list []complex64, count int64) []float32 {
	var spot []float32
	for m := range count {
		sum := complex64(0)
		for k, x := range list {
			y := product(x, widePhasor(-(float64(int64(k)*m) / float64(count))))
			sum = complex(plus(real(sum), real(y)), plus(imag(sum), imag(y)))
		}
		spot = append(spot, powerAt(sum))
	}
	return spot
}

// openings are lists of all lengths.
func openings() [][]complex64 {
	var list [][]complex64
	lights := someLights(200)
	for n := 1; n <= 32; n++ {
		opening := make([]complex64, n, n+3)
		for k := range opening {
			opening[k] = complex(2*lights[k+n]-1, lights[3*k+n]-0.5)
			if k%7 == 3 {
				opening[k] = complex(1, num(minusZero))
			}
		}
		list = append(list, opening)
	}
	return list
}

func TestSpotOf(t *testing.T) {
	max := num(greatest)
	wantNumbers(t, "SpotOf 3 + 4 i", 25)(impl.SpotOf([]complex64{complex(3, 4)}, 1))
	wantNumbers(t, "SpotOf one number", 25, 25, 25, 25)(impl.SpotOf([]complex64{complex(3, 4)}, 4))
	wantNumbers(t, "SpotOf 1 and 1", 4, spotBehind([]complex64{1, 1}, 2)[1])(impl.SpotOf([]complex64{1, 1}, 2))
	wantNumbers(t, "SpotOf zeros", 0, 0, 0)(impl.SpotOf([]complex64{0, complex(num(minusZero), num(minusZero))}, 3))
	for _, opening := range openings() {
		for count := int64(1); count <= 32; count++ {
			if n := int64(len(opening)); n != 1 && n != 32 && count != 1 && count != 32 && (n+count)%6 != 0 {
				continue
			}
			what := fmt.Sprintf("SpotOf %d numbers at %d places", len(opening), count)
			wantNumbers(t, what, spotBehind(opening, count)...)(impl.SpotOf(opening, count))
			power, sum := 0.0, 0.0
			for _, x := range opening {
				power += float64(powerAt(x))
			}
			spot, _ := impl.SpotOf(opening, count)
			for _, x := range spot {
				sum += float64(x)
			}
			if count >= int64(len(opening)) && math.Abs(sum-power*float64(count)) > 1e-4*sum {
				t.Errorf("%s: the sum is %v, and not nearly %v", what, sum, power*float64(count))
			}
		}
	}
	for _, bad := range [][]complex64{nil, {}, complexOnes(33), complexOnes(1000), {complex(max, 0)}, {complex(0, -max)}, {1e19, 1e19}} {
		wantNoList[float32](t, fmt.Sprintf("SpotOf %d numbers", len(bad)))(impl.SpotOf(bad, 2))
	}
	for _, count := range []int64{math.MinInt64, -1, 0, 33, math.MaxInt64} {
		wantNoList[float32](t, fmt.Sprintf("SpotOf at %d places", count))(impl.SpotOf(complexOnes(2), count))
	}
	for _, x := range notFinite() {
		for count := int64(1); count <= 8; count++ {
			for _, bad := range [][]complex64{{complex(x, 0)}, {complex(0, x)}, {1, complex(x, 1)}, {1, complex(1, x)}, {complex(x, x), 1}} {
				wantNoList[float32](t, fmt.Sprintf("SpotOf %v at %d places", bad, count))(impl.SpotOf(bad, count))
			}
		}
	}
	// The sum at the first place is infinite, but not those at others.
	wantNoList[float32](t, "SpotOf with one infinite spot")(impl.SpotOf([]complex64{1.5e19, 1.5e19}, 2))
	wantNumbersIfFinite(t, "SpotOf with finite spots", spotBehind([]complex64{5e18, 5e18}, 2))(impl.SpotOf([]complex64{5e18, 5e18}, 2))
}
