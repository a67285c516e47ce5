package tests

import (
	"fmt"
	"math"
	"slices"
	"testing"

	"loop.example/g01308/impl"
)

func maskMix(a, b, mask impl.Picture) impl.Picture {
	return changed(a, func(i int, light float32) float32 {
		return plus(light, times(mask.Lights[i], less(b.Lights[i], light)))
	})
}

func TestMaskMix(t *testing.T) {
	zero, max := num(minusZero), num(greatest)
	for _, c := range []struct{ a, b, mask, want impl.Picture }{
		{pictureOf(2, 1, 1, 1), pictureOf(2, 1, 3, 3), pictureOf(2, 1, 0, 0.5), pictureOf(2, 1, 1, 2)},
		{pictureOf(2, 2, 1, 2, 3, 4), pictureOf(2, 2, 5, 6, 7, 8), pictureOf(2, 2, 0, 1, 0.25, 0.75), pictureOf(2, 2, 1, 6, 4, 7)},
		{pictureOf(1, 1, zero), pictureOf(1, 1, zero), pictureOf(1, 1, zero), pictureOf(1, 1, zero)},
		{pictureOf(1, 1, zero), pictureOf(1, 1, zero), pictureOf(1, 1, 1), pictureOf(1, 1, 0)},
		{pictureOf(1, 1, zero), pictureOf(1, 1, -1), pictureOf(1, 1, 0), pictureOf(1, 1, zero)},
		{pictureOf(1, 1, 1), pictureOf(1, 1, 0x1p25), pictureOf(1, 1, 1), pictureOf(1, 1, 0x1p25)},
		{pictureOf(1, 1, 0x1p25), pictureOf(1, 1, 1), pictureOf(1, 1, 1), pictureOf(1, 1, 0)}, // not b: the difference is rounded
		{pictureOf(1, 1, max), pictureOf(1, 1, 0), pictureOf(1, 1, 1), pictureOf(1, 1, 0)},
	} {
		wantPicture(t, fmt.Sprintf("MaskMix %v, %v by %v", c.a, c.b, c.mask), c.want)(impl.MaskMix(c.a, c.b, c.mask))
	}
	pictures := tonePictures()
	for i, mask := range shots() {
		for k, a := range pictures {
			if a.Wide != mask.Wide || a.High != mask.High {
				continue
			}
			for j := k / 3 * 3; j < k/3*3+3; j++ {
				what := fmt.Sprintf("MaskMix of the pictures %d and %d by the shot %d", k, j, i)
				wantIfFinite(t, what, maskMix(a, pictures[j], mask))(impl.MaskMix(a, pictures[j], mask))
			}
		}
	}
}

func TestMaskMixFails(t *testing.T) {
	max := num(greatest)
	p := pictureOf(2, 2, 1, 2, 3, 4)
	mask := pictureOf(2, 2, 0, 1, 0.5, 0.25)
	for what, bad := range noShots() {
		wantNoPicture(t, "MaskMix by "+what)(impl.MaskMix(p, p, bad))
	}
	for what, bad := range badPictures() {
		wantNoPicture(t, "MaskMix from "+what)(impl.MaskMix(bad, p, mask))
		wantNoPicture(t, "MaskMix to "+what)(impl.MaskMix(p, bad, mask))
		wantNoPicture(t, "MaskMix three times "+what)(impl.MaskMix(bad, bad, bad))
	}
	for _, other := range []impl.Picture{pictureOf(4, 1, 0, 1, 0, 1), pictureOf(1, 4, 0, 1, 0, 1), pictureOf(2, 1, 0, 1), pictureOf(1, 2, 0, 1), pictureOf(3, 2, 0, 1, 0, 1, 0, 1)} {
		wantNoPicture(t, "MaskMix from other sides")(impl.MaskMix(other, p, mask))
		wantNoPicture(t, "MaskMix to other sides")(impl.MaskMix(p, other, mask))
		wantNoPicture(t, "MaskMix by other sides")(impl.MaskMix(p, p, other))
		wantNoPicture(t, "MaskMix of other sides than those of the mask")(impl.MaskMix(other, other, mask))
	}
	wantNoPicture(t, "MaskMix with an infinite difference")(impl.MaskMix(pictureOf(2, 1, 1, -max), pictureOf(2, 1, 1, max), pictureOf(2, 1, 0, 0.5)))
	wantNoPicture(t, "MaskMix with 0 times an infinite difference")(impl.MaskMix(pictureOf(2, 1, -max, 1), pictureOf(2, 1, max, 1), pictureOf(2, 1, 0, 0.5)))
}

func TestFeatherMask(t *testing.T) {
	for _, c := range []struct {
		at, over int64
		want     []float32
	}{
		{1, 1, []float32{0, 0.5, 1, 1}},
		{0, 0, []float32{1, 1, 1, 1}},
		{2, 0, []float32{0, 0, 1, 1}},
		{4, 0, []float32{0, 0, 0, 0}},
		{16, 16, []float32{0, 0, 0, 0}},
		{0, 3, []float32{0.25, 0.5, 0.75, 1}},
		{0, 7, []float32{0.125, 0.25, 0.375, 0.5}},
		{1, 2, []float32{0, by(1, 3), by(2, 3), 1}},
		{3, 16, []float32{0, 0, 0, by(1, 17)}},
		{0, 16, []float32{by(1, 17), by(2, 17), by(3, 17), by(4, 17)}},
	} {
		what := fmt.Sprintf("FeatherMask at %d over %d", c.at, c.over)
		wantPicture(t, what, pictureOf(4, 1, c.want...))(impl.FeatherMask(4, 1, c.at, c.over))
		wantPicture(t, what+", two rows", pictureOf(4, 2, append(c.want, c.want...)...))(impl.FeatherMask(4, 2, c.at, c.over))
	}
	for wide := int64(1); wide <= 16; wide++ {
		for at := int64(0); at <= 16; at++ {
			for over := int64(0); over <= 16; over++ {
				high := 1 + (at+3*over)%16
				want := fromLights(wide, high, func(x, _ int64) float32 {
					// Behind at + over, the quotient would be 1 and more.
					return max(0, min(1, by(float32(x-at+1), float32(over+1))))
				})
				wantPicture(t, fmt.Sprintf("FeatherMask %d by %d at %d over %d", wide, high, at, over), want)(impl.FeatherMask(wide, high, at, over))
			}
		}
	}
	for _, bad := range []int64{math.MinInt64, -17, -1, 17, 18, math.MaxInt64} {
		wantNoPicture(t, fmt.Sprintf("FeatherMask at %d", bad))(impl.FeatherMask(4, 2, bad, 1))
		wantNoPicture(t, fmt.Sprintf("FeatherMask over %d", bad))(impl.FeatherMask(4, 2, 1, bad))
		wantNoPicture(t, fmt.Sprintf("FeatherMask at and over %d", bad))(impl.FeatherMask(4, 2, bad, bad))
	}
	for _, s := range badSides() {
		wantNoPicture(t, fmt.Sprintf("FeatherMask of %v", s))(impl.FeatherMask(s[0], s[1], 1, 1))
		wantNoPicture(t, fmt.Sprintf("FeatherMask of %v at 0 over 0", s))(impl.FeatherMask(s[0], s[1], 0, 0))
	}
}

// A mask and its opposite share each light between two pictures.
func TestMaskMixWithFeathers(t *testing.T) {
	zero, one := pictureOf(4, 2, make([]float32, 8)...), pictureOf(4, 2, ones(8)...)
	for at := int64(0); at <= 5; at++ {
		mask, _ := impl.FeatherMask(4, 2, at, 2)
		wantPicture(t, fmt.Sprintf("MaskMix by a feather at %d", at), mask)(impl.MaskMix(zero, one, mask))
	}
}

// around are the pixels above a pixel, to its left, to its right and below it.
func around(p impl.Picture, pixel int64) []int64 {
	var list []int64
	x, y := pixel%p.Wide, pixel/p.Wide
	for i := range int64(len(p.Lights)) {
		if apart(i%p.Wide, x)+apart(i/p.Wide, y) == 1 {
			list = append(list, i)
		}
	}
	return list
}

// settle makes turns, where each hole becomes what a test tells of it.
func settle(p impl.Picture, holes []int64, turns int64, becomes func(p impl.Picture, hole int64) float32) settleTest {
	change := float32(0)
	for range turns {
		change = 0
		for _, hole := range holes {
			light := becomes(p, hole)
			moved := withoutSign(less(light, p.Lights[hole]))
			p.Lights[hole] = light
			if !(moved <= change) {
				change = moved
			}
		}
	}
	if !finite(change) || !allFinite(p.Lights) {
		return settleTest{}
	}
	return settleTest{p, change, true}
}

func filled(p impl.Picture, holes []int64, turns int64) settleTest {
	sum, count := float32(0), float32(0)
	for i, light := range p.Lights {
		if !slices.Contains(holes, int64(i)) {
			sum, count = plus(sum, light), count+1
		}
	}
	first := changed(p, func(i int, light float32) float32 {
		if slices.Contains(holes, int64(i)) {
			return by(sum, count)
		}
		return light
	})
	return settle(first, holes, turns, func(p impl.Picture, hole int64) float32 {
		sum, count := float32(0), float32(0)
		for _, other := range around(p, hole) {
			sum, count = plus(sum, p.Lights[other]), count+1
		}
		return by(sum, count)
	})
}

func blended(a, b impl.Picture, holes []int64, turns int64) settleTest {
	first := changed(a, func(i int, light float32) float32 {
		if slices.Contains(holes, int64(i)) {
			return b.Lights[i]
		}
		return light
	})
	return settle(first, holes, turns, func(p impl.Picture, hole int64) float32 {
		sum, slope, count := float32(0), float32(0), float32(0)
		for _, other := range around(p, hole) {
			sum, count = plus(sum, p.Lights[other]), count+1
			slope = plus(slope, less(b.Lights[hole], b.Lights[other]))
		}
		return by(plus(sum, slope), count)
	})
}

func someTurns() []int64 { return []int64{0, 1, 2, 7, 64} }

func TestFillHoles(t *testing.T) {
	zero, max := num(minusZero), num(greatest)
	for _, c := range []struct {
		p     impl.Picture
		holes []int64
		turns int64
		want  settleTest
	}{
		{pictureOf(3, 1, 1, 9, 3), holesOf(1), 2, settleTest{pictureOf(3, 1, 1, 2, 3), 0, true}},
		{pictureOf(3, 1, 1, 9, 3), holesOf(1), 0, settleTest{pictureOf(3, 1, 1, 2, 3), 0, true}},
		{pictureOf(4, 1, 1, 9, 3, 8), holesOf(1), 0, settleTest{pictureOf(4, 1, 1, 4, 3, 8), 0, true}},
		{pictureOf(4, 1, 1, 9, 3, 8), holesOf(1), 1, settleTest{pictureOf(4, 1, 1, 2, 3, 8), 2, true}},
		{pictureOf(4, 1, 1, 9, 3, 8), holesOf(1), 2, settleTest{pictureOf(4, 1, 1, 2, 3, 8), 0, true}},
		// A hole takes its neighbours as they are then: the second one that which the first one has become.
		{pictureOf(4, 1, 0, 9, 9, 8), holesOf(1, 2), 1, settleTest{pictureOf(4, 1, 0, 2, 5, 8), 2, true}},
		{pictureOf(4, 1, 0, 9, 9, 8), holesOf(1, 2), 2, settleTest{pictureOf(4, 1, 0, 2.5, 5.25, 8), 0.5, true}},
		// Corners and edges have fewer neighbours.
		{nine(), holesOf(0), 1, settleTest{pictureOf(3, 3, 3, 2, 3, 4, 5, 6, 7, 8, 9), 2.5, true}},
		{nine(), holesOf(8), 1, settleTest{pictureOf(3, 3, 1, 2, 3, 4, 5, 6, 7, 8, 7), 2.5, true}},
		{nine(), holesOf(4), 1, settleTest{nine(), 0, true}},
		{nine(), holesOf(3), 1, settleTest{pictureOf(3, 3, 1, 2, 3, by(13, 3), 5, 6, 7, 8, 9), less(by(41, 8), by(13, 3)), true}},
		{pictureOf(2, 1, 5, 7), holesOf(0), 64, settleTest{pictureOf(2, 1, 7, 7), 0, true}},
		{pictureOf(2, 1, 5, 7), holesOf(1), 64, settleTest{pictureOf(2, 1, 5, 5), 0, true}},
		{pictureOf(1, 2, 5, 7), holesOf(0), 0, settleTest{pictureOf(1, 2, 7, 7), 0, true}},
		{pictureOf(1, 1, 7), holesOf(), 64, settleTest{pictureOf(1, 1, 7), 0, true}},
		{pictureOf(2, 1, max, max), holesOf(), 64, settleTest{pictureOf(2, 1, max, max), 0, true}},
		{pictureOf(2, 1, zero, 1), holesOf(1), 0, settleTest{pictureOf(2, 1, zero, 0), 0, true}}, // a sum begins with +0
		{pictureOf(2, 1, zero, 1), holesOf(1), 1, settleTest{pictureOf(2, 1, zero, 0), 0, true}},
		// The order of a sum: above, to the left, to the right, below.
		{pictureOf(3, 3, 0, 0x1p30, 0, -0x1p30, 0, 1, 0, 1, 0), holesOf(4), 1, settleTest{pictureOf(3, 3, 0, 0x1p30, 0, -0x1p30, 0.5, 1, 0, 1, 0), 0.25, true}},
		{pictureOf(3, 3, 0, 0x1p30, 0, 1, 0, -0x1p30, 0, 1, 0), holesOf(4), 1, settleTest{pictureOf(3, 3, 0, 0x1p30, 0, 1, 0.25, -0x1p30, 0, 1, 0), 0.125, true}},
	} {
		what := fmt.Sprintf("FillHoles %v of %v in %d turns", c.holes, c.p, c.turns)
		wantSettled(t, what, c.want)(impl.FillHoles(c.p, c.holes, c.turns))
	}
	for i, p := range slices.Concat(tonePictures(), allPictures()) {
		for k, holes := range holeSets(p) {
			turns := someTurns()[(i+k)%5]
			what := fmt.Sprintf("FillHoles %d of the picture %d in %d turns", k, i, turns)
			wantSettled(t, what, filled(p, holes, turns))(impl.FillHoles(p, holes, turns))
		}
	}
}

func TestGradientBlend(t *testing.T) {
	zero := num(minusZero)
	flat := pictureOf(3, 1, 4, 4, 4)
	for _, c := range []struct {
		a, b  impl.Picture
		holes []int64
		turns int64
		want  settleTest
	}{
		{pictureOf(3, 1, 1, 1, 1), pictureOf(3, 1, 0, 2, 0), holesOf(1), 1, settleTest{pictureOf(3, 1, 1, 3, 1), 1, true}},
		{pictureOf(3, 1, 1, 1, 1), pictureOf(3, 1, 0, 2, 0), holesOf(1), 2, settleTest{pictureOf(3, 1, 1, 3, 1), 0, true}},
		{pictureOf(3, 1, 1, 1, 1), pictureOf(3, 1, 0, 2, 0), holesOf(1), 0, settleTest{pictureOf(3, 1, 1, 2, 1), 0, true}},
		{pictureOf(3, 1, 1, 7, 3), flat, holesOf(1), 1, settleTest{pictureOf(3, 1, 1, 2, 3), 2, true}},
		{flat, pictureOf(3, 1, 1, 2, 4), holesOf(), 64, settleTest{flat, 0, true}},
		{flat, pictureOf(3, 1, 1, 2, 4), holesOf(1), 1, settleTest{pictureOf(3, 1, 4, 3.5, 4), 1.5, true}},
		{flat, pictureOf(3, 1, 1, 2, 4), holesOf(2), 1, settleTest{pictureOf(3, 1, 4, 4, 6), 2, true}},
		{flat, pictureOf(3, 1, 1, 2, 4), holesOf(1, 2), 1, settleTest{pictureOf(3, 1, 4, 3.5, 5.5), 1.5, true}},
		{flat, pictureOf(3, 1, 1, 2, 4), holesOf(0, 1), 1, settleTest{pictureOf(3, 1, 1, 2, 4), 0, true}},
		{flat, pictureOf(3, 1, 1, 2, 4), holesOf(0, 1), 2, settleTest{pictureOf(3, 1, 1, 2, 4), 0, true}},
		{pictureOf(2, 1, zero, 1), pictureOf(2, 1, zero, zero), holesOf(1), 0, settleTest{pictureOf(2, 1, zero, zero), 0, true}},
		{pictureOf(2, 1, zero, 1), pictureOf(2, 1, zero, zero), holesOf(1), 1, settleTest{pictureOf(2, 1, zero, 0), 0, true}},
		{pictureOf(1, 1, 3), pictureOf(1, 1, 4), holesOf(), 1, settleTest{pictureOf(1, 1, 3), 0, true}},
		// Both sums are made on their own: 0x1p25 is lost in neither of them.
		{pictureOf(3, 1, 0x1p25, 0, 1), pictureOf(3, 1, 0x1p25, 0, 1), holesOf(1), 1, settleTest{pictureOf(3, 1, 0x1p25, 0, 1), 0, true}},
		{pictureOf(3, 1, 0x1p25, 0, 1), pictureOf(3, 1, 0x1p25, 0, 3), holesOf(1), 1, settleTest{pictureOf(3, 1, 0x1p25, -2, 1), 2, true}},
		// The order of a sum: above, to the left, to the right, below.
		{pictureOf(3, 3, repeated(float32(0), 9)...), pictureOf(3, 3, 0, 0x1p30, 0, -0x1p30, 0, 1, 0, 1, 0), holesOf(4), 1, settleTest{pictureOf(3, 3, 0, 0, 0, 0, -0.5, 0, 0, 0, 0), 0.5, true}},
		{pictureOf(3, 3, repeated(float32(0), 9)...), pictureOf(3, 3, 0, 0x1p30, 0, 1, 0, -0x1p30, 0, 1, 0), holesOf(4), 1, settleTest{pictureOf(3, 3, 0, 0, 0, 0, -0.25, 0, 0, 0, 0), 0.25, true}},
	} {
		what := fmt.Sprintf("GradientBlend %v of %v and %v in %d turns", c.holes, c.a, c.b, c.turns)
		wantSettled(t, what, c.want)(impl.GradientBlend(c.a, c.b, c.holes, c.turns))
	}
	pictures, others := slices.Concat(tonePictures(), allPictures()), slices.Concat(tonePictures(), coarsePictures())
	for i, a := range pictures {
		b := others[i]
		if i < 45 {
			b = others[i/3*3+(i+1)%3]
		}
		for k, holes := range holeSets(a) {
			turns := someTurns()[(i+k)%5]
			what := fmt.Sprintf("GradientBlend %d of the picture %d in %d turns", k, i, turns)
			wantSettled(t, what, blended(a, b, holes, turns))(impl.GradientBlend(a, b, holes, turns))
		}
	}
}

func TestHolesOfInfiniteSums(t *testing.T) {
	max, none := num(greatest), settleTest{}
	row := pictureOf(5, 1, 1, 9, 3, max, max)
	// The mean is infinite, but a hole among other lights gets away from it: its first change is infinite, the next one 0.
	wantSettled(t, "FillHoles with an infinite mean", none)(impl.FillHoles(row, holesOf(1), 0))
	wantSettled(t, "FillHoles with an infinite change", none)(impl.FillHoles(row, holesOf(1), 1))
	wantSettled(t, "FillHoles behind an infinite change", settleTest{pictureOf(5, 1, 1, 2, 3, max, max), 0, true})(impl.FillHoles(row, holesOf(1), 2))
	wantSettled(t, "FillHoles with two infinite holes", none)(impl.FillHoles(row, holesOf(0, 1), 64))
	wantSettled(t, "FillHoles with an infinite mean and no hole", settleTest{row, 0, true})(impl.FillHoles(row, nil, 64))
	wantSettled(t, "FillHoles with an infinite sum", none)(impl.FillHoles(pictureOf(5, 1, max, 1, max, -max, -max), holesOf(1), 1))
	// The mean is a sum in the order of the pixels.
	wantSettled(t, "FillHoles with an infinite sum on the way", none)(impl.FillHoles(pictureOf(5, 1, -max, -max, 1, max, max), holesOf(2), 0))
	wantSettled(t, "FillHoles with a finite sum", settleTest{pictureOf(5, 1, -max, max, 0, max, -max), 0, true})(impl.FillHoles(pictureOf(5, 1, -max, max, 1, max, -max), holesOf(2), 0))
	// The change of the last turn alone counts.
	a, b := pictureOf(3, 1, -max, 0, -max/2), pictureOf(3, 1, max/2, max/2, max/2)
	wantSettled(t, "GradientBlend with an infinite sum", none)(impl.GradientBlend(a, b, holesOf(1), 1))
	a = pictureOf(3, 1, -max/2, 0, -max/2)
	wantSettled(t, "GradientBlend with a great change", settleTest{pictureOf(3, 1, -max/2, -max/2, -max/2), max, true})(impl.GradientBlend(a, b, holesOf(1), 1))
	b = pictureOf(3, 1, 0.75*max, 0.75*max, 0.75*max)
	wantSettled(t, "GradientBlend with an infinite change", none)(impl.GradientBlend(a, b, holesOf(1), 1))
	wantSettled(t, "GradientBlend behind an infinite change", settleTest{pictureOf(3, 1, -max/2, -max/2, -max/2), 0, true})(impl.GradientBlend(a, b, holesOf(1), 2))
	wantSettled(t, "GradientBlend before an infinite change", settleTest{pictureOf(3, 1, -max/2, 0.75*max, -max/2), 0, true})(impl.GradientBlend(a, b, holesOf(1), 0))
	wantSettled(t, "GradientBlend with an infinite slope", none)(impl.GradientBlend(pictureOf(2, 1, 1, 1), pictureOf(2, 1, max, -max), holesOf(1), 2))
	wantSettled(t, "GradientBlend beside an infinite slope", settleTest{pictureOf(4, 1, 2, 2, 3, 4), 2, true})(impl.GradientBlend(pictureOf(4, 1, 1, 2, 3, 4), pictureOf(4, 1, 0, 0, max, -max), holesOf(0), 1))
}

func TestHolesFail(t *testing.T) {
	p := nine()
	none := settleTest{}
	for what, holes := range badHoles() {
		for _, turns := range someTurns() {
			wantSettled(t, "FillHoles of "+what, none)(impl.FillHoles(p, holes, turns))
			wantSettled(t, "GradientBlend of "+what, none)(impl.GradientBlend(p, p, holes, turns))
		}
	}
	for _, turns := range badTurns() {
		for _, holes := range [][]int64{nil, {0}, {4}} {
			wantSettled(t, fmt.Sprintf("FillHoles in %d turns", turns), none)(impl.FillHoles(p, holes, turns))
			wantSettled(t, fmt.Sprintf("GradientBlend in %d turns", turns), none)(impl.GradientBlend(p, p, holes, turns))
		}
	}
	for what, bad := range badPictures() {
		for _, holes := range [][]int64{nil, {0}, {1}} {
			wantSettled(t, "FillHoles in "+what, none)(impl.FillHoles(bad, holes, 1))
			wantSettled(t, "GradientBlend in "+what, none)(impl.GradientBlend(bad, pictureOf(2, 2, 1, 2, 3, 4), holes, 1))
			wantSettled(t, "GradientBlend of "+what, none)(impl.GradientBlend(pictureOf(2, 2, 1, 2, 3, 4), bad, holes, 1))
			wantSettled(t, "GradientBlend of and in "+what, none)(impl.GradientBlend(bad, bad, holes, 1))
		}
	}
	for _, other := range []impl.Picture{pictureOf(1, 1, 1), pictureOf(9, 1, ones(9)...), pictureOf(1, 9, ones(9)...), pictureOf(3, 2, ones(6)...), pictureOf(2, 3, ones(6)...), pictureOf(3, 4, ones(12)...)} {
		wantSettled(t, "GradientBlend of other sides", none)(impl.GradientBlend(p, other, holesOf(1), 1))
		wantSettled(t, "GradientBlend in other sides", none)(impl.GradientBlend(other, p, holesOf(1), 1))
		wantSettled(t, "GradientBlend of other sides without holes", none)(impl.GradientBlend(p, other, nil, 0))
	}
	wantSettled(t, "FillHoles of the only pixel", none)(impl.FillHoles(pictureOf(1, 1, 1), holesOf(0), 1))
	wantSettled(t, "GradientBlend of the only pixel", none)(impl.GradientBlend(pictureOf(1, 1, 1), pictureOf(1, 1, 1), holesOf(0), 1))
}

// Blends of a picture with itself, and with itself made brighter, are this picture, nearly.
func TestGradientBlendOfOnePicture(t *testing.T) {
	for i, p := range coarsePictures() {
		brighter := changed(p, func(_ int, light float32) float32 { return light + 8 })
		for k, holes := range holeSets(p) {
			got, change, ok := impl.GradientBlend(p, p, holes, 64)
			if !ok || change > 1e-4 {
				t.Errorf("the picture %d with the holes %d: %v, %v", i, k, change, ok)
				continue
			}
			for j, light := range got.Lights {
				if !isNear(light, p.Lights[j], 1e-4) {
					t.Fatalf("the picture %d with the holes %d: got %v, want %v", i, k, got, p)
				}
			}
			if len(holes) != 1 {
				continue
			}
			got, _, _ = impl.GradientBlend(p, brighter, holes, 2)
			for j, light := range got.Lights {
				if !isNear(light, p.Lights[j], 1e-4) {
					t.Fatalf("the picture %d with the hole %v of a brighter one: got %v, want %v", i, holes, got, p)
				}
			}
		}
	}
}
