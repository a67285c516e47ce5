package tests

import (
	"fmt"
	"math"
	"testing"

	"loop.example/g01308/impl"
)

// curveOf has unused room behind its numbers.
func curveOf(x, y []float32) impl.Curve {
	return impl.Curve{X: pictureOf(0, 0, x...).Lights, Y: pictureOf(0, 0, y...).Lights}
}

// toneCurves are valid, with all numbers of knots, among them some whose Y fall, are equal, or are far apart.
func toneCurves() []impl.Curve {
	list := []impl.Curve{
		curveOf([]float32{0, 2, 4}, []float32{0, 1, 5}),
		curveOf([]float32{-1, num(tiniest), 3}, []float32{7, 7, num(minusZero)}),
		curveOf([]float32{0x1p-126, 0.1, 1e30}, []float32{0x1p25, 1, 0.7}),
		curveOf([]float32{num(minusZero), 1}, []float32{num(minusZero), 0}),
		curveOf([]float32{-num(greatest), num(greatest)}, []float32{3, 4}),
	}
	lights := someLights(40)
	for n := 2; n <= 16; n++ {
		c := curveOf(make([]float32, n), make([]float32, n))
		for k := range n {
			c.X[k] = float32(k)/7 + lights[k]/9 - 0.4
			c.Y[k] = 3*lights[k+n] - 1
		}
		list = append(list, c)
	}
	return list
}

// badToneCurves have just one fault each.
func badToneCurves() map[string]impl.Curve {
	rising := make([]float32, 17)
	for k := range rising {
		rising[k] = float32(k)
	}
	list := map[string]impl.Curve{
		"the zero curve":    {},
		"one knot":          curveOf(rising[:1], rising[:1]),
		"seventeen knots":   curveOf(rising, rising),
		"an X too many":     curveOf(rising[:3], rising[:2]),
		"a Y too many":      curveOf(rising[:2], rising[:3]),
		"only X":            curveOf(rising[:2], nil),
		"only Y":            curveOf(nil, rising[:2]),
		"equal X":           curveOf([]float32{1, 1}, []float32{0, 1}),
		"equal first X":     curveOf([]float32{1, 1, 2}, []float32{0, 1, 2}),
		"equal last X":      curveOf([]float32{1, 2, 2}, []float32{0, 1, 2}),
		"falling X":         curveOf([]float32{1, 0}, []float32{0, 1}),
		"falling last X":    curveOf([]float32{1, 3, 2}, []float32{0, 1, 2}),
		"two zeros as X":    curveOf([]float32{num(minusZero), 0}, []float32{0, 1}),
		"exchanged zeros":   curveOf([]float32{0, num(minusZero), 1}, []float32{0, 1, 2}),
		"sixteen and fewer": curveOf(rising[:16], rising[:15]),
	}
	for _, x := range notFinite() {
		list[fmt.Sprintf("the first X %08x", rawBits(x))] = curveOf([]float32{x, 1, 2}, []float32{0, 1, 2})
		list[fmt.Sprintf("the middle X %08x", rawBits(x))] = curveOf([]float32{0, x, 2}, []float32{0, 1, 2})
		list[fmt.Sprintf("the last X %08x", rawBits(x))] = curveOf([]float32{0, 1, x}, []float32{0, 1, 2})
		list[fmt.Sprintf("the first Y %08x", rawBits(x))] = curveOf([]float32{0, 1, 2}, []float32{x, 1, 2})
		list[fmt.Sprintf("the last Y %08x", rawBits(x))] = curveOf([]float32{0, 1, 2}, []float32{0, 1, x})
	}
	return list
}

func wantCurve(t *testing.T, what string, want impl.Curve) func(impl.Curve, bool) {
	return func(got impl.Curve, ok bool) {
		t.Helper()
		if !ok || told(got) != told(want) {
			t.Errorf("%s: got %v, %v, want %v", what, got, ok, want)
		}
	}
}

func wantNoCurve(t *testing.T, what string) func(impl.Curve, bool) {
	return func(got impl.Curve, ok bool) {
		t.Helper()
		if ok || len(got.X) != 0 || len(got.Y) != 0 {
			t.Errorf("%s: got %v, %v", what, got, ok)
		}
	}
}

func wantPyramid(t *testing.T, what string, want []impl.Picture) func([]impl.Picture, bool) {
	return func(got []impl.Picture, ok bool) {
		t.Helper()
		if !ok || len(got) != len(want) || told(got) != told(want) {
			t.Errorf("%s: got %v, %v, want %v", what, got, ok, want)
		}
	}
}

func finite(x float32) bool {
	return !math.IsNaN(float64(x)) && !math.IsInf(float64(x), 0)
}

func allFinite(list []float32) bool {
	for _, x := range list {
		if !finite(x) {
			return false
		}
	}
	return true
}

// wantIfFinite and wantSumIfFinite take what the tests compute: a function fails if this is not finite.
func wantIfFinite(t *testing.T, what string, want impl.Picture) func(impl.Picture, bool) {
	if !allFinite(want.Lights) {
		return wantNoPicture(t, what+", not finite")
	}
	return wantPicture(t, what, want)
}

func wantSumIfFinite(t *testing.T, what string, want float32) func(float32, bool) {
	if !finite(want) {
		return wantSum(t, what+", not finite", 0, false)
	}
	return wantSum(t, what, want, true)
}

// narrowExp is that of math/big; chapter 1 is tested with it.
func narrowExp(x float32) float32 {
	switch {
	case x > 200:
		return num(infBits)
	case x < -200:
		return 0
	case x != x:
		return x
	}
	return wideExp(x)
}

// toneSides are odd and even ones, and those of one row, one column and one pixel.
func toneSides() [][2]int64 {
	return [][2]int64{{1, 1}, {2, 1}, {1, 2}, {3, 1}, {1, 3}, {2, 2}, {3, 2}, {2, 3}, {3, 3}, {5, 4}, {7, 9}, {16, 1}, {1, 16}, {15, 3}, {16, 16}}
}

// tonePictures have lights of both signs and of many sizes, among them both zeros.
func tonePictures() []impl.Picture {
	var list []impl.Picture
	lights, wild := someLights(300), someNumbers(300)
	for n, s := range toneSides() {
		even := pictureOf(s[0], s[1], make([]float32, s[0]*s[1])...)
		high := pictureOf(s[0], s[1], make([]float32, s[0]*s[1])...)
		for i := range even.Lights {
			even.Lights[i] = 4*lights[i+n] - 2
			high.Lights[i] = float32(math.Ldexp(float64(lights[i+n]), (7*i+n)%31-16))
			switch i % 13 {
			case 5:
				even.Lights[i] = 0
			case 7:
				even.Lights[i], high.Lights[i] = num(minusZero), num(minusZero)
			case 9:
				high.Lights[i] = even.Lights[i]
			}
		}
		list = append(list, even, high, pictureOf(s[0], s[1], wild[n:n+len(even.Lights)]...))
	}
	return list
}

// litPictures are tonePictures without lights that are less than 0.
func litPictures() []impl.Picture {
	list := tonePictures()
	for _, p := range list {
		for i, light := range p.Lights {
			if light < 0 {
				p.Lights[i] = -light
			}
		}
	}
	return list
}

// changed is the picture of what a test computes of each light; each pixel has its index, too.
func changed(p impl.Picture, change func(i int, light float32) float32) impl.Picture {
	q := pictureOf(p.Wide, p.High, p.Lights...)
	for i, light := range p.Lights {
		q.Lights[i] = change(i, light)
	}
	return q
}

// dimPictures are valid, but a light is less than 0.
func dimPictures() map[string]impl.Picture {
	list := map[string]impl.Picture{}
	for _, x := range []float32{-1, num(0x80000001), -num(greatest)} {
		list[fmt.Sprintf("the first light %v", x)] = pictureOf(2, 2, x, 2, 3, 4)
		list[fmt.Sprintf("the last light %v", x)] = pictureOf(2, 2, 1, 2, 3, x)
	}
	return list
}

// unfit are numbers that are not finite, or not greater than 0.
func unfit() []float32 {
	return append(notFinite(), 0, num(minusZero), -1, num(0x80000001), -num(greatest))
}
