package tests

import (
	"fmt"
	"math"
	"slices"
	"testing"

	"loop.example/g01308/impl"
)

func TestLimitsOfOptics(t *testing.T) {
	if impl.MaxKernel != 9 || impl.MaxSpot != 32 {
		t.Error("a limit is not as the document says")
	}
}

func TestIsKernel(t *testing.T) {
	for _, kernel := range append(kernels(),
		kernelOf(1.0009999), // the last one that differs by at most 0.001
		kernelOf(0.999),
		kernelOf(num(minusZero), 1, num(minusZero)),
		kernelOf(0, 0, 0, 0, 1, 0, 0, 0, 0),
		// The sum goes in order: both last numbers are too small to change it, but would do so together.
		kernelOf(1.0009999, 0x1p-24, 0x1p-24),
	) {
		wantBool(t, fmt.Sprintf("IsKernel %v", kernel), impl.IsKernel(kernel), true)
	}
	for what, bad := range badKernels() {
		wantBool(t, "IsKernel of "+what, impl.IsKernel(bad), false)
	}
	wantBool(t, "IsKernel of nil", impl.IsKernel(nil), false)
	wantBool(t, "IsKernel in the other order", impl.IsKernel(kernelOf(0x1p-24, 0x1p-24, 1.0009999)), false)
	wantBool(t, "IsKernel of a long list", impl.IsKernel(append(kernelOf(1), make([]float32, 1000)...)), false)
}

// hill is a kernel, each operation of which is rounded.
func hill(reach int64, wide float32) []float32 {
	var list []float32
	sum := float32(0)
	for k := -reach; k <= reach; k++ {
		u := by(float32(k), wide)
		list = append(list, narrowExp(-times(u, u)))
		sum = plus(sum, list[len(list)-1])
	}
	for k := range list {
		list[k] = by(list[k], sum)
	}
	return list
}

func TestHillKernel(t *testing.T) {
	max := num(greatest)
	wantNumbers(t, "HillKernel 0", 1)(impl.HillKernel(0, 1))
	wantNumbers(t, "HillKernel of the greatest wide", repeated(by(1, 9), 9)...)(impl.HillKernel(4, max))
	wantNumbers(t, "HillKernel of the least wide", 0, 0, 0, 0, 1, 0, 0, 0, 0)(impl.HillKernel(4, num(tiniest)))
	wantNumbers(t, "HillKernel of a small wide", 0, 1, 0)(impl.HillKernel(1, 0.05))
	for reach := int64(0); reach <= 4; reach++ {
		for _, wide := range append(someLights(40), 0.3, 1, 2, 3, 100, max, num(tiniest), 0x1p-126) {
			if wide == 0 {
				continue
			}
			what := fmt.Sprintf("HillKernel %d %v", reach, wide)
			wantNumbers(t, what, hill(reach, wide)...)(impl.HillKernel(reach, wide))
			kernel, _ := impl.HillKernel(reach, wide)
			wantBool(t, "IsKernel of "+what, impl.IsKernel(kernel), true)
		}
		for _, wide := range unfit() {
			wantNoList[float32](t, fmt.Sprintf("HillKernel %d %v", reach, wide))(impl.HillKernel(reach, wide))
		}
	}
	for _, reach := range []int64{math.MinInt64, -4, -1, 5, 9, math.MaxInt64} {
		wantNoList[float32](t, fmt.Sprintf("HillKernel %d", reach))(impl.HillKernel(reach, 1))
	}
}

// blurredBy is a picture whose lights are sums of those around them, in the direction right, down.
func blurredBy(p impl.Picture, kernel []float32, right, down int64) impl.Picture {
	return orNone(changed(p, func(i int, _ float32) float32 {
		sum := float32(0)
		for k, number := range kernel {
			away := int64(k) - int64(len(kernel)-1)/2
			sum = plus(sum, times(number, pixelNear(p, int64(i)%p.Wide+away*right, int64(i)/p.Wide+away*down)))
		}
		return sum
	}))
}

func blurred(p impl.Picture, kernel []float32) impl.Picture {
	return blurredBy(blurredBy(p, kernel, 1, 0), kernel, 0, 1)
}

func TestBlurPicture(t *testing.T) {
	third := pictureOf(3, 3, 0, 0, 0, 0, 16, 0, 0, 0, 0)
	for _, c := range []struct {
		p      impl.Picture
		kernel []float32
		want   []float32
	}{
		{pictureOf(3, 1, 0, 4, 0), kernelOf(0.25, 0.5, 0.25), []float32{1, 2, 1}},
		{pictureOf(1, 3, 0, 4, 0), kernelOf(0.25, 0.5, 0.25), []float32{1, 2, 1}},
		{third, kernelOf(0.25, 0.5, 0.25), []float32{1, 2, 1, 2, 4, 2, 1, 2, 1}},
		{third, kernelOf(1), third.Lights},
		{third, kernelOf(0, 0, 1, 0, 0), third.Lights},
		// The first number takes the lights on the left, and then those above.
		{third, kernelOf(1, 0, 0), []float32{0, 0, 0, 0, 0, 0, 0, 0, 16}},
		{third, kernelOf(0, 0, 1), []float32{16, 0, 0, 0, 0, 0, 0, 0, 0}},
		{third, kernelOf(0.5, 0.25, 0.25), []float32{1, 1, 2, 1, 1, 2, 2, 2, 4}},
		// Coordinates outside are those of the edges.
		{pictureOf(3, 1, 8, 0, 0), kernelOf(0.25, 0.5, 0.25), []float32{6, 2, 0}},
		{pictureOf(3, 1, 8, 0, 16), kernelOf(0.125, 0.125, 0, 0, 0.5, 0, 0, 0.125, 0.125), []float32{10, 6, 14}},
		{pictureOf(2, 1, 1, 3), kernelOf(1, 0, 0, 0, 0, 0, 0, 0, 0), []float32{1, 1}},
		{pictureOf(1, 2, 1, 3), kernelOf(0, 0, 0, 0, 0, 0, 0, 0, 1), []float32{3, 3}},
		{pictureOf(1, 1, 5), kernelOf(0.25, 0.5, 0.25), []float32{5}},
		{pictureOf(1, 1, num(minusZero)), kernelOf(1), []float32{0}}, // a sum begins with +0
	} {
		wantPicture(t, fmt.Sprintf("BlurPicture %v with %v", c.p, c.kernel), pictureOf(c.p.Wide, c.p.High, c.want...))(impl.BlurPicture(c.p, c.kernel))
	}
	for i, p := range append(tonePictures(), allPictures()[:40]...) {
		for k, kernel := range kernels() {
			wantIfFinite(t, fmt.Sprintf("BlurPicture %d with %v", i, kernels()[k]), blurred(p, kernel))(impl.BlurPicture(p, kernel))
		}
	}
}

func TestBlurPictureFails(t *testing.T) {
	max := num(greatest)
	for what, bad := range badPictures() {
		wantNoPicture(t, "BlurPicture of "+what)(impl.BlurPicture(bad, kernelOf(1)))
	}
	for what, bad := range badKernels() {
		wantNoPicture(t, "BlurPicture with "+what)(impl.BlurPicture(nine(), bad))
	}
	wantNoPicture(t, "BlurPicture with nil")(impl.BlurPicture(nine(), nil))
	wantNoPicture(t, "BlurPicture that is infinite")(impl.BlurPicture(pictureOf(1, 1, max), kernelOf(1.0005)))
	// Rows are infinite, and nothing that comes of them is finite, whatever the columns take.
	wantNoPicture(t, "BlurPicture with infinite rows")(impl.BlurPicture(pictureOf(3, 3, 0, 0, 0, max, max, max, 0, 0, 0), kernelOf(0.50049, 0.25, 0.25)))
	wantPicture(t, "BlurPicture of the greatest lights", pictureOf(2, 1, max, max))(impl.BlurPicture(pictureOf(2, 1, max, max), kernelOf(0.25, 0.5, 0.25)))
}

// Both halves of promise 6 allow for what is rounded, and the kernels' sums, for 0.001 in each direction.
func TestBlurredPicturesLieBetweenTheirLights(t *testing.T) {
	for i, p := range append(litPictures(), tonePictures()...) {
		for _, kernel := range kernels() {
			got, ok := impl.BlurPicture(p, kernel)
			if !ok && slices.Max(p.Lights) < 1e38 && slices.Min(p.Lights) > -1e38 {
				t.Errorf("BlurPicture %d with %v fails", i, kernel)
			}
			least, greatest := float64(slices.Min(p.Lights)), float64(slices.Max(p.Lights))
			room := 0.0021 * max(math.Abs(least), math.Abs(greatest))
			for _, light := range got.Lights {
				if x := float64(light); x < least-room-1e-44 || x > greatest+room+1e-44 {
					t.Errorf("BlurPicture %d with %v: %v is not from %v to %v", i, kernel, light, least, greatest)
				}
			}
		}
	}
}

func TestPlainPicturesStayPlain(t *testing.T) {
	for reach := int64(0); reach <= 4; reach++ {
		for _, wide := range []float32{0.4, 1, 2.5, 70} {
			kernel, _ := impl.HillKernel(reach, wide)
			for _, s := range toneSides() {
				p, _ := impl.PlainPicture(s[0], s[1], 3)
				got, _ := impl.BlurPicture(p, kernel)
				wantEven(t, fmt.Sprintf("BlurPicture of %v with %v", s, kernel), got, 3, 1e-5)
			}
		}
	}
}

func overLevel(p impl.Picture, level float32) impl.Picture {
	return orNone(changed(p, func(_ int, light float32) float32 {
		if x := less(light, level); x > 0 {
			return x
		}
		return 0
	}))
}

func TestOverPicture(t *testing.T) {
	max, zero := num(greatest), num(minusZero)
	for _, c := range []struct {
		light, level, want float32
	}{
		{1, 2, 0}, {3, 2, 1}, {2, 2, 0}, {after(2), 2, 0x1p-22}, {before(2), 2, 0}, {-3, -4, 1}, {-4, -3, 0}, {zero, 0, 0}, {0, zero, 0}, {zero, zero, 0},
		{max, max, 0}, {-max, max, 0}, {max, 0, max}, {0, -max, max}, {num(tiniest), 0, num(tiniest)}, {0x1p-126, num(0x007fffff), num(tiniest)}, {num(0x007fffff), 0x1p-126, 0},
	} {
		wantPicture(t, fmt.Sprintf("OverPicture %v over %v", c.light, c.level), pictureOf(1, 1, c.want))(impl.OverPicture(pictureOf(1, 1, c.light), c.level))
	}
	for i, p := range tonePictures() {
		for _, level := range []float32{0, 1, -0.5, 0.1, zero, 1e30, -1e30, max, -max, p.Lights[0]} {
			wantIfFinite(t, fmt.Sprintf("OverPicture %d over %v", i, level), overLevel(p, level))(impl.OverPicture(p, level))
		}
	}
	for what, bad := range badPictures() {
		wantNoPicture(t, "OverPicture of "+what)(impl.OverPicture(bad, 1))
	}
	for _, x := range notFinite() {
		wantNoPicture(t, fmt.Sprintf("OverPicture over %v", x))(impl.OverPicture(nine(), x))
	}
	wantNoPicture(t, "OverPicture that is infinite")(impl.OverPicture(pictureOf(2, 1, 0, max), -max))
}

func bloomed(p impl.Picture, level, share float32, kernel []float32) impl.Picture {
	bloom := blurred(overLevel(p, level), kernel)
	return changed(p, func(i int, light float32) float32 { return plus(light, times(share, bloom.Lights[i])) })
}

func TestBloomPicture(t *testing.T) {
	max := num(greatest)
	wantPicture(t, "BloomPicture", pictureOf(3, 1, 0.5, 5, 0.5))(impl.BloomPicture(pictureOf(3, 1, 0, 4, 0), 2, 1, kernelOf(0.25, 0.5, 0.25)))
	wantPicture(t, "BloomPicture with the share -2", pictureOf(3, 1, -1, 2, -1))(impl.BloomPicture(pictureOf(3, 1, 0, 4, 0), 2, -2, kernelOf(0.25, 0.5, 0.25)))
	wantPicture(t, "BloomPicture with the share 0", nine())(impl.BloomPicture(nine(), 3, 0, kernelOf(0.25, 0.5, 0.25)))
	wantPicture(t, "BloomPicture at the level", pictureOf(3, 1, 0, 4, 0))(impl.BloomPicture(pictureOf(3, 1, 0, 4, 0), 4, 1, kernelOf(0.25, 0.5, 0.25)))
	for i, p := range tonePictures() {
		for k, kernel := range kernels() {
			level, share := []float32{0, 0.5, -1, p.Lights[0]}[(i+k)%4], []float32{1, 0.1, -0.7, 3, max}[(i+2*k)%5]
			what := fmt.Sprintf("BloomPicture %d over %v with %v and %v", i, level, share, kernel)
			wantIfFinite(t, what, bloomed(p, level, share, kernel))(impl.BloomPicture(p, level, share, kernel))
		}
	}
	for what, bad := range badPictures() {
		wantNoPicture(t, "BloomPicture of "+what)(impl.BloomPicture(bad, 1, 1, kernelOf(1)))
	}
	for what, bad := range badKernels() {
		wantNoPicture(t, "BloomPicture with "+what)(impl.BloomPicture(nine(), 1, 1, bad))
		wantNoPicture(t, "BloomPicture over all with "+what)(impl.BloomPicture(nine(), 99, 0, bad))
	}
	for _, x := range notFinite() {
		wantNoPicture(t, fmt.Sprintf("BloomPicture over %v", x))(impl.BloomPicture(nine(), x, 1, kernelOf(1)))
		wantNoPicture(t, fmt.Sprintf("BloomPicture with the share %v", x))(impl.BloomPicture(nine(), 99, x, kernelOf(1)))
	}
	wantNoPicture(t, "BloomPicture of what is over by too much")(impl.BloomPicture(pictureOf(2, 1, 0, max), -max, 0, kernelOf(1)))
	wantNoPicture(t, "BloomPicture with an infinite blur")(impl.BloomPicture(pictureOf(1, 1, max), 0, 0, kernelOf(1.0005)))
	wantNoPicture(t, "BloomPicture that is infinite")(impl.BloomPicture(pictureOf(1, 1, max), 0, 1, kernelOf(1)))
	wantPicture(t, "BloomPicture of the greatest light", pictureOf(1, 1, 0))(impl.BloomPicture(pictureOf(1, 1, max), 0, -1, kernelOf(1)))
}

// farFromMiddle has both parts of a pixel's place, as seen from the middle.
func farFromMiddle(p impl.Picture, i int) (float32, float32) {
	x, y := float32(int64(i)%p.Wide), float32(int64(i)/p.Wide)
	a := by(less(plus(times(2, x), 1), float32(p.Wide)), float32(p.Wide))
	b := by(less(plus(times(2, y), 1), float32(p.High)), float32(p.High))
	return a, b
}

func shadeOfPixel(p impl.Picture, i int, fall float32) float32 {
	a, b := farFromMiddle(p, i)
	s := plus(1, times(fall, plus(times(a, a), times(b, b))))
	return times(s, s)
}

func TestShades(t *testing.T) {
	max, zero := num(greatest), num(minusZero)
	wantPicture(t, "ShadePicture", pictureOf(2, 1, 2, 2))(impl.ShadePicture(pictureOf(2, 1, 8, 8), 4))
	wantPicture(t, "UnshadePicture", pictureOf(2, 1, 8, 8))(impl.UnshadePicture(pictureOf(2, 1, 2, 2), 4))
	wantPicture(t, "ShadePicture of a column", pictureOf(1, 2, 2, -2))(impl.ShadePicture(pictureOf(1, 2, 8, -8), 4))
	wantPicture(t, "ShadePicture of 2 by 2", pictureOf(2, 2, 1, 2, 3, 4))(impl.ShadePicture(pictureOf(2, 2, 4, 8, 12, 16), 2))
	for _, fall := range []float32{0, zero} {
		wantPicture(t, "ShadePicture with the fall 0", nine())(impl.ShadePicture(nine(), fall))
		wantPicture(t, "UnshadePicture with the fall 0", nine())(impl.UnshadePicture(nine(), fall))
	}
	// The middle pixel of 1 by 1 is as bright as it was, and others are divided by infinity.
	wantPicture(t, "ShadePicture of a pixel with the greatest fall", pictureOf(1, 1, 7))(impl.ShadePicture(pictureOf(1, 1, 7), max))
	wantPicture(t, "UnshadePicture of a pixel with the greatest fall", pictureOf(1, 1, 7))(impl.UnshadePicture(pictureOf(1, 1, 7), max))
	wantPicture(t, "ShadePicture with the greatest fall", pictureOf(3, 1, 0, 7, zero))(impl.ShadePicture(pictureOf(3, 1, 7, 7, -7), max))
	wantNoPicture(t, "UnshadePicture with the greatest fall")(impl.UnshadePicture(pictureOf(3, 1, 7, 7, 7), max))
	wantNoPicture(t, "UnshadePicture of 0 with the greatest fall")(impl.UnshadePicture(pictureOf(3, 1, 0, 7, 0), max))
	for i, p := range tonePictures() {
		for _, fall := range []float32{0, zero, 0.25, 1, 0.1, 7.3, 1e20, max, num(tiniest)} {
			what := fmt.Sprintf("%d with the fall %v", i, fall)
			dark := changed(p, func(i int, light float32) float32 { return by(light, shadeOfPixel(p, i, fall)) })
			bright := changed(p, func(i int, light float32) float32 { return times(light, shadeOfPixel(p, i, fall)) })
			wantIfFinite(t, "ShadePicture "+what, dark)(impl.ShadePicture(p, fall))
			wantIfFinite(t, "UnshadePicture "+what, bright)(impl.UnshadePicture(p, fall))
		}
	}
}

func TestShadesFail(t *testing.T) {
	for what, bad := range badPictures() {
		wantNoPicture(t, "ShadePicture of "+what)(impl.ShadePicture(bad, 1))
		wantNoPicture(t, "UnshadePicture of "+what)(impl.UnshadePicture(bad, 1))
	}
	for _, fall := range append(notFinite(), -1, num(0x80000001), -num(greatest)) {
		wantNoPicture(t, fmt.Sprintf("ShadePicture with the fall %v", fall))(impl.ShadePicture(nine(), fall))
		wantNoPicture(t, fmt.Sprintf("UnshadePicture with the fall %v", fall))(impl.UnshadePicture(nine(), fall))
		// Pictures of even sides have no pixel in their middle, where an infinite fall would make a not-a-number.
		for _, p := range []impl.Picture{pictureOf(2, 1, 8, 8), pictureOf(1, 2, 8, 0), pictureOf(2, 2, 1, 2, 3, 4)} {
			wantNoPicture(t, fmt.Sprintf("ShadePicture of even sides with the fall %v", fall))(impl.ShadePicture(p, fall))
			wantNoPicture(t, fmt.Sprintf("UnshadePicture of even sides with the fall %v", fall))(impl.UnshadePicture(p, fall))
		}
	}
}
