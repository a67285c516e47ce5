package tests

import (
	"fmt"
	"math"
	"testing"

	"loop.example/g01308/impl"
)

func apart(a, b int64) int64 { return max(a-b, b-a) }

// windowOf are the indices of the pixels in the window of a pixel.
func windowOf(p impl.Picture, pixel int, radius int64) []int {
	var list []int
	for i := range p.Lights {
		x, y := apart(int64(i)%p.Wide, int64(pixel)%p.Wide), apart(int64(i)/p.Wide, int64(pixel)/p.Wide)
		if x <= radius && y <= radius {
			list = append(list, i)
		}
	}
	return list
}

// orNone takes what a function of the program would return: if it fails, nothing that comes of it is a number.
func orNone(p impl.Picture) impl.Picture {
	if allFinite(p.Lights) {
		return p
	}
	return changed(p, func(int, float32) float32 { return num(nanBits) })
}

func boxMean(p impl.Picture, radius int64) impl.Picture {
	return orNone(changed(p, func(pixel int, _ float32) float32 {
		sum, window := float32(0), windowOf(p, pixel, radius)
		for _, i := range window {
			sum = plus(sum, p.Lights[i])
		}
		return by(sum, float32(len(window)))
	}))
}

func boxSpread(p impl.Picture, radius int64) impl.Picture {
	means := boxMean(p, radius)
	return orNone(changed(p, func(pixel int, _ float32) float32 {
		sum, window := float32(0), windowOf(p, pixel, radius)
		for _, i := range window {
			more := less(p.Lights[i], means.Lights[pixel])
			sum = plus(sum, times(more, more))
		}
		return by(sum, float32(len(window)))
	}))
}

func guided(p impl.Picture, radius int64, ease float32) impl.Picture {
	m, v := boxMean(p, radius), boxSpread(p, radius)
	a := changed(v, func(_ int, v float32) float32 { return by(v, plus(v, ease)) })
	b := changed(m, func(i int, m float32) float32 { return less(m, times(a.Lights[i], m)) })
	a, b = boxMean(a, radius), boxMean(b, radius)
	return orNone(changed(p, func(i int, light float32) float32 { return plus(times(a.Lights[i], light), b.Lights[i]) }))
}

func edged(p impl.Picture, radius int64, near float32) impl.Picture {
	return changed(p, func(pixel int, light float32) float32 {
		top, bottom := float32(0), float32(0)
		for _, i := range windowOf(p, pixel, radius) {
			x := float32(apart(int64(i)%p.Wide, int64(pixel)%p.Wide))
			y := float32(apart(int64(i)/p.Wide, int64(pixel)/p.Wide))
			jump := by(less(p.Lights[i], light), near)
			w := by(1, times(plus(plus(1, times(x, x)), times(y, y)), plus(1, times(jump, jump))))
			top, bottom = plus(top, times(w, p.Lights[i])), plus(bottom, w)
		}
		return by(top, bottom)
	})
}

func local(p impl.Picture, radius int64) impl.Picture {
	means := boxMean(p, radius)
	return changed(p, func(i int, light float32) float32 { return by(light, plus(1, means.Lights[i])) })
}

func sharp(p impl.Picture, radius int64, factor float32) impl.Picture {
	means := boxMean(p, radius)
	return changed(p, func(i int, light float32) float32 {
		return plus(light, times(factor, less(light, means.Lights[i])))
	})
}

func detailed(p impl.Picture, radius int64, ease, press, small float32) impl.Picture {
	logs := orNone(changed(p, func(_ int, light float32) float32 { return narrowLog(plus(light, small)) }))
	bases := guided(logs, radius, ease)
	return changed(logs, func(i int, log float32) float32 {
		return narrowExp(plus(times(press, bases.Lights[i]), less(log, bases.Lights[i])))
	})
}

// nine is a picture of 3 by 3, whose windows with the radius 1 are at all edges and corners.
func nine() impl.Picture { return pictureOf(3, 3, 1, 2, 3, 4, 5, 6, 7, 8, 9) }

func TestBoxMean(t *testing.T) {
	zero := num(minusZero)
	for _, c := range []struct {
		p      impl.Picture
		radius int64
		want   []float32
	}{
		{pictureOf(3, 1, 1, 2, 6), 1, []float32{1.5, 3, 4}},
		{pictureOf(1, 3, 1, 2, 6), 1, []float32{1.5, 3, 4}},
		{nine(), 0, []float32{1, 2, 3, 4, 5, 6, 7, 8, 9}},
		{nine(), 1, []float32{3, 3.5, 4, 4.5, 5, 5.5, 6, 6.5, 7}},
		{nine(), 2, repeated(float32(5), 9)},
		{nine(), 8, repeated(float32(5), 9)},
		{pictureOf(2, 2, 3, 3, 3, 3), 1, repeated(float32(3), 4)},
		{pictureOf(1, 1, 7), 8, []float32{7}},
		{pictureOf(1, 1, zero), 0, []float32{0}}, // a sum begins with +0
		{pictureOf(2, 1, zero, zero), 1, []float32{0, 0}},
		// The order of the sum: row by row.
		{pictureOf(2, 2, 0x1p30, -0x1p30, 1, 1), 1, repeated(float32(0.5), 4)},
		{pictureOf(2, 2, 0x1p30, 1, -0x1p30, 1), 1, repeated(float32(0.25), 4)},
		{pictureOf(2, 2, 1, 1, 0x1p30, -0x1p30), 1, repeated(float32(0), 4)},
		// The window of the left pixel alone has a sum that is finite.
		{pictureOf(3, 1, num(greatest), 0, -num(greatest)), 1, []float32{num(greatest) / 2, 0, -num(greatest) / 2}},
	} {
		wantPicture(t, fmt.Sprintf("BoxMean %v with %d", c.p, c.radius), pictureOf(c.p.Wide, c.p.High, c.want...))(impl.BoxMean(c.p, c.radius))
	}
	for i, p := range tonePictures() {
		for radius := int64(0); radius <= 8; radius++ {
			wantIfFinite(t, fmt.Sprintf("BoxMean %d with %d", i, radius), boxMean(p, radius))(impl.BoxMean(p, radius))
		}
	}
}

func TestBoxSpread(t *testing.T) {
	zero := num(minusZero)
	for _, c := range []struct {
		p      impl.Picture
		radius int64
		want   []float32
	}{
		{pictureOf(3, 1, 1, 2, 6), 1, []float32{0.25, by(14, 3), 4}},
		{pictureOf(1, 3, 1, 2, 6), 1, []float32{0.25, by(14, 3), 4}},
		{nine(), 0, make([]float32, 9)},
		{nine(), 1, []float32{2.5, by(17.5, 6), 2.5, 6.25, by(60, 9), 6.25, 2.5, by(17.5, 6), 2.5}},
		{nine(), 2, repeated(by(60, 9), 9)},
		{nine(), 8, repeated(by(60, 9), 9)},
		{pictureOf(1, 1, zero), 0, []float32{0}},
		{pictureOf(2, 1, -3, 3), 5, []float32{9, 9}},
	} {
		wantPicture(t, fmt.Sprintf("BoxSpread %v with %d", c.p, c.radius), pictureOf(c.p.Wide, c.p.High, c.want...))(impl.BoxSpread(c.p, c.radius))
	}
	for i, p := range tonePictures() {
		for radius := int64(0); radius <= 8; radius++ {
			wantIfFinite(t, fmt.Sprintf("BoxSpread %d with %d", i, radius), boxSpread(p, radius))(impl.BoxSpread(p, radius))
		}
	}
}

func TestGuidedFilter(t *testing.T) {
	max := num(greatest)
	wantPicture(t, "GuidedFilter of a plain picture", pictureOf(2, 2, 3, 3, 3, 3))(impl.GuidedFilter(pictureOf(2, 2, 3, 3, 3, 3), 1, 1))
	// The means are 0, the spreads 1: a is 0.5, and b is 0.
	wantPicture(t, "GuidedFilter of two pixels", pictureOf(2, 1, -0.5, 0.5))(impl.GuidedFilter(pictureOf(2, 1, -1, 1), 1, 1))
	// The means are 3, the spreads 1: a is 0.25, and b is 2.25.
	wantPicture(t, "GuidedFilter with ease 3", pictureOf(2, 1, 2.75, 3.25))(impl.GuidedFilter(pictureOf(2, 1, 2, 4), 8, 3))
	// With the radius 0, nothing is spread: a is 0, and b is the light.
	wantPicture(t, "GuidedFilter with the radius 0", nine())(impl.GuidedFilter(nine(), 0, 0.1))
	for i, p := range tonePictures() {
		for radius := int64(0); radius <= 8; radius++ {
			for _, ease := range []float32{1, 0.1, max, num(tiniest)}[:1+(i+int(radius))%4] {
				wantIfFinite(t, fmt.Sprintf("GuidedFilter %d with %d and %v", i, radius, ease), guided(p, radius, ease))(impl.GuidedFilter(p, radius, ease))
			}
		}
	}
}

func TestEdgeFilter(t *testing.T) {
	max := num(greatest)
	// The other pixel has the weight 1 / (2 2).
	wantPicture(t, "EdgeFilter of two pixels", pictureOf(2, 1, 1.2, 1.8))(impl.EdgeFilter(pictureOf(2, 1, 1, 2), 1, 1))
	wantPicture(t, "EdgeFilter of a column", pictureOf(1, 2, 1.2, 1.8))(impl.EdgeFilter(pictureOf(1, 2, 1, 2), 8, 1))
	wantPicture(t, "EdgeFilter with the radius 0", nine())(impl.EdgeFilter(nine(), 0, 1))
	// Quotients that are infinite make weights of 0.
	wantPicture(t, "EdgeFilter of far lights", pictureOf(2, 1, 1, max))(impl.EdgeFilter(pictureOf(2, 1, 1, max), 1, num(tiniest)))
	wantPicture(t, "EdgeFilter of an infinite difference", pictureOf(2, 1, -max, max))(impl.EdgeFilter(pictureOf(2, 1, -max, max), 1, 1))
	wantPicture(t, "EdgeFilter of zeros", pictureOf(2, 1, 0, 0))(impl.EdgeFilter(pictureOf(2, 1, num(minusZero), num(minusZero)), 1, 1))
	for i, p := range tonePictures() {
		for radius := int64(0); radius <= 8; radius++ {
			for _, near := range []float32{1, 0.1, max, num(tiniest)}[:1+(i+int(radius))%4] {
				wantIfFinite(t, fmt.Sprintf("EdgeFilter %d with %d and %v", i, radius, near), edged(p, radius, near))(impl.EdgeFilter(p, radius, near))
			}
		}
	}
}

func TestLocalTone(t *testing.T) {
	zero, max := num(minusZero), num(greatest)
	for _, c := range []struct {
		p      impl.Picture
		radius int64
		want   []float32
	}{
		{pictureOf(2, 2, 3, 3, 3, 3), 1, repeated(float32(0.75), 4)},
		{pictureOf(3, 1, 1, 2, 6), 1, []float32{0.4, 0.5, 1.2}},
		{pictureOf(3, 1, 1, 2, 6), 0, []float32{0.5, by(2, 3), by(6, 7)}},
		{pictureOf(2, 1, 0, zero), 8, []float32{0, zero}},
		{pictureOf(1, 1, max), 8, []float32{1}},
	} {
		wantPicture(t, fmt.Sprintf("LocalTone %v with %d", c.p, c.radius), pictureOf(c.p.Wide, c.p.High, c.want...))(impl.LocalTone(c.p, c.radius))
	}
	for i, p := range litPictures() {
		for radius := int64(0); radius <= 8; radius++ {
			wantIfFinite(t, fmt.Sprintf("LocalTone %d with %d", i, radius), local(p, radius))(impl.LocalTone(p, radius))
		}
	}
	for what, dim := range dimPictures() {
		wantNoPicture(t, "LocalTone with "+what)(impl.LocalTone(dim, 1))
	}
	// There is no BoxMean of it, though quotients with an infinite number would be 0.
	wantNoPicture(t, "LocalTone of an infinite sum")(impl.LocalTone(pictureOf(2, 1, max, max), 1))
	wantNoPicture(t, "LocalTone of an infinite last sum")(impl.LocalTone(pictureOf(4, 1, 1, 1, max, max), 1))
}

func TestDetailTone(t *testing.T) {
	tiny, max := num(tiniest), num(greatest)
	for i, p := range append(litPictures(), pictureOf(1, 1, 0), pictureOf(2, 1, num(minusZero), 0), pictureOf(2, 1, 0, max), pictureOf(1, 1, max)) {
		for radius := int64(0); radius <= 8; radius += 1 + int64(i%3) {
			for _, c := range [][3]float32{{1, 1, 1}, {0.1, 0.5, 0.001}, {tiny, -2, tiny}, {max, 0, 3}, {0.3, max, 1}, {0.3, -max, 2}, {1, 1.5, max}}[i%4 : 4+i%4] {
				want := detailed(p, radius, c[0], c[1], c[2])
				wantIfFinite(t, fmt.Sprintf("DetailTone %d with %d and %v", i, radius, c), want)(impl.DetailTone(p, radius, c[0], c[1], c[2]))
			}
		}
	}
}

func TestDetailToneFails(t *testing.T) {
	p := pictureOf(2, 1, 1, 2)
	for _, x := range unfit() {
		wantNoPicture(t, fmt.Sprintf("DetailTone with ease %v", x))(impl.DetailTone(p, 1, x, 1, 1))
		wantNoPicture(t, fmt.Sprintf("DetailTone with %v added", x))(impl.DetailTone(p, 1, 1, 1, x))
	}
	for _, x := range notFinite() {
		wantNoPicture(t, fmt.Sprintf("DetailTone with press %v", x))(impl.DetailTone(p, 1, 1, x, 1))
		wantNoPicture(t, fmt.Sprintf("DetailTone of logarithms of 0 with press %v", x))(impl.DetailTone(pictureOf(1, 1, 0), 0, 1, x, 1))
	}
	for what, dim := range dimPictures() {
		wantNoPicture(t, "DetailTone with "+what)(impl.DetailTone(dim, 1, 1, 1, 1))
		wantNoPicture(t, "DetailTone with what is added to "+what)(impl.DetailTone(dim, 1, 1, 1, 9))
	}
	wantNoPicture(t, "DetailTone of an infinite sum")(impl.DetailTone(pictureOf(2, 1, 0, num(greatest)), 1, 1, 1, num(greatest)))
	wantNoPicture(t, "DetailTone that is infinite")(impl.DetailTone(p, 1, 1, 1e6, 9))
}

func TestSharpenPicture(t *testing.T) {
	zero, max := num(minusZero), num(greatest)
	for _, c := range []struct {
		p      impl.Picture
		radius int64
		by     float32
		want   []float32
	}{
		{pictureOf(3, 1, 1, 2, 6), 1, 1, []float32{0.5, 1, 8}},
		{pictureOf(3, 1, 1, 2, 6), 1, 0, []float32{1, 2, 6}},
		{pictureOf(3, 1, 1, 2, 6), 1, -1, []float32{1.5, 3, 4}},
		{pictureOf(3, 1, 1, 2, 6), 8, 2, []float32{-3, 0, 12}},
		{nine(), 1, 2, []float32{-3, -1, 1, 3, 5, 7, 9, 11, 13}},
		{nine(), 0, max, []float32{1, 2, 3, 4, 5, 6, 7, 8, 9}},
		{pictureOf(1, 1, zero), 0, 0, []float32{zero}},
		{pictureOf(1, 1, zero), 0, -1, []float32{0}},
		{pictureOf(1, 1, max), 3, max, []float32{max}},
	} {
		what := fmt.Sprintf("SharpenPicture %v with %d by %v", c.p, c.radius, c.by)
		wantPicture(t, what, pictureOf(c.p.Wide, c.p.High, c.want...))(impl.SharpenPicture(c.p, c.radius, c.by))
	}
	for i, p := range tonePictures() {
		for radius := int64(0); radius <= 8; radius++ {
			for _, factor := range []float32{0.3, -1.7, 0, max, num(tiniest)} {
				want := sharp(p, radius, factor)
				wantIfFinite(t, fmt.Sprintf("SharpenPicture %d with %d by %v", i, radius, factor), want)(impl.SharpenPicture(p, radius, factor))
			}
		}
	}
	for _, x := range notFinite() {
		wantNoPicture(t, fmt.Sprintf("SharpenPicture by %v", x))(impl.SharpenPicture(nine(), 1, x))
		wantNoPicture(t, fmt.Sprintf("SharpenPicture of 0 by %v", x))(impl.SharpenPicture(pictureOf(1, 1, 0), 0, x))
	}
	wantNoPicture(t, "SharpenPicture that is infinite")(impl.SharpenPicture(pictureOf(2, 1, 1, 9), 1, max))
	wantNoPicture(t, "SharpenPicture of an infinite sum by 0")(impl.SharpenPicture(pictureOf(2, 1, max, max), 1, 0))
}

// allFilters are the results of all filters with a radius.
func allFilters(p impl.Picture, radius int64) map[string]impl.Picture {
	list := map[string]impl.Picture{}
	keep := func(name string) func(impl.Picture, bool) {
		return func(r impl.Picture, ok bool) {
			if ok {
				list[name] = r
			}
		}
	}
	keep("BoxMean")(impl.BoxMean(p, radius))
	keep("BoxSpread")(impl.BoxSpread(p, radius))
	keep("GuidedFilter")(impl.GuidedFilter(p, radius, 0.5))
	keep("EdgeFilter")(impl.EdgeFilter(p, radius, 0.5))
	keep("LocalTone")(impl.LocalTone(p, radius))
	keep("DetailTone")(impl.DetailTone(p, radius, 0.5, 1, 1))
	keep("DetailTone without bases")(impl.DetailTone(p, radius, 0.5, 0, 1))
	keep("SharpenPicture")(impl.SharpenPicture(p, radius, 0.5))
	return list
}

func TestFiltersFail(t *testing.T) {
	for _, radius := range []int64{-1, 9, math.MinInt64, math.MaxInt64, 1 << 32, -8} {
		for _, p := range []impl.Picture{nine(), pictureOf(1, 1, 0), pictureOf(16, 16, ones(256)...)} {
			for name := range allFilters(p, radius) {
				t.Errorf("%s with the radius %d succeeds", name, radius)
			}
		}
	}
	for what, bad := range badPictures() {
		for radius := int64(0); radius <= 8; radius += 4 {
			for name := range allFilters(bad, radius) {
				t.Errorf("%s of %s succeeds", name, what)
			}
			wantNoPicture(t, "BoxMean of "+what)(impl.BoxMean(bad, radius))
			wantNoPicture(t, "EdgeFilter of "+what)(impl.EdgeFilter(bad, radius, 1))
		}
	}
	for _, x := range unfit() {
		wantNoPicture(t, fmt.Sprintf("GuidedFilter with %v", x))(impl.GuidedFilter(nine(), 1, x))
		wantNoPicture(t, fmt.Sprintf("GuidedFilter of a plain picture with %v", x))(impl.GuidedFilter(pictureOf(1, 1, 1), 0, x))
		wantNoPicture(t, fmt.Sprintf("EdgeFilter with %v", x))(impl.EdgeFilter(nine(), 1, x))
		wantNoPicture(t, fmt.Sprintf("EdgeFilter of a plain picture with %v", x))(impl.EdgeFilter(pictureOf(1, 1, 1), 0, x))
	}
	max := num(greatest)
	for _, p := range []impl.Picture{pictureOf(2, 1, max, max), pictureOf(1, 3, 0, -max, -max), pictureOf(4, 1, 1, 1, max, max)} {
		wantNoPicture(t, "BoxMean of an infinite sum")(impl.BoxMean(p, 1))
		wantNoPicture(t, "BoxSpread of an infinite sum")(impl.BoxSpread(p, 1))
		wantNoPicture(t, "GuidedFilter of an infinite sum")(impl.GuidedFilter(p, 1, 1))
		wantNoPicture(t, "EdgeFilter of an infinite sum")(impl.EdgeFilter(p, 1, max))
	}
	wantNoPicture(t, "BoxSpread of an infinite square")(impl.BoxSpread(pictureOf(2, 1, 0x1p64, -0x1p64), 1))
	wantNoPicture(t, "GuidedFilter of an infinite square")(impl.GuidedFilter(pictureOf(2, 1, 0x1p64, -0x1p64), 1, 1))
}

func isNear(got, want float32, share float64) bool {
	return math.Abs(float64(got)-float64(want)) <= share*math.Abs(float64(want))
}

// wantEven tests that all lights of a filtered plain picture are nearly as told.
func wantEven(t *testing.T, what string, got impl.Picture, want float32, share float64) {
	t.Helper()
	if len(got.Lights) == 0 {
		t.Errorf("%s: it fails", what)
	}
	for _, light := range got.Lights {
		if !isNear(light, want, share) {
			t.Errorf("%s: got %v, want nearly %v", what, light, want)
		}
	}
}

// Promise 5: filters keep what is even, nearly.
func TestFiltersKeepWhatIsEven(t *testing.T) {
	for _, s := range toneSides() {
		for _, light := range []float32{0, num(minusZero), 1, 3, 0.1, 1e-10, 1e10, 0.7, 12345.678, 0x1p-100, -1, -0.3} {
			p, _ := impl.PlainPicture(s[0], s[1], light)
			for radius := int64(0); radius <= 8; radius++ {
				list := allFilters(p, radius)
				what := fmt.Sprintf(" of %v of %v with %d", s, light, radius)
				for _, name := range []string{"BoxMean", "GuidedFilter", "EdgeFilter", "SharpenPicture"} {
					wantEven(t, name+what, list[name], light, 3e-5)
				}
				for _, spread := range list["BoxSpread"].Lights {
					if !(spread >= 0) || float64(spread) > 1e-9*float64(light)*float64(light) {
						t.Errorf("BoxSpread%s: got %v", what, spread)
					}
				}
				if light < 0 {
					continue
				}
				wantEven(t, "LocalTone"+what, list["LocalTone"], light/(1+light), 3e-5)
				wantEven(t, "DetailTone"+what, list["DetailTone"], light+1, 1e-4)
				wantEven(t, "DetailTone without bases"+what, list["DetailTone without bases"], 1, 1e-3)
			}
		}
	}
}

func TestTonesKeepWhatIsEven(t *testing.T) {
	for _, s := range toneSides() {
		for _, light := range []float32{0, 1, 3, 0.1, 1e-10, 1e10, 12345.678} {
			p, _ := impl.PlainPicture(s[0], s[1], light)
			what := fmt.Sprintf(" of %v of %v", s, light)
			even, _ := impl.EvenTone(p)
			wantEven(t, "EvenTone"+what, even, 0.5, 0)
			half, _ := impl.HalvePicture(p)
			wantEven(t, "HalvePicture"+what, half, light, 1e-6)
			double, _ := impl.DoublePicture(half, s[0], s[1])
			wantEven(t, "DoublePicture"+what, double, light, 1e-6)
			global, _ := impl.GlobalTone(p, 1, 1)
			share := light / (light + 0.0009765625)
			if light == 0 {
				share = 0
			}
			wantEven(t, "GlobalTone"+what, global, share, 1e-4)
			quantile, ok := impl.QuantileOf(p, 0.4)
			wantSum(t, "QuantileOf"+what, light, true)(quantile, ok)
		}
	}
}

// A filter that keeps edges changes little where lights are far from each other, and a filter of windows changes much.
func TestFiltersKeepEdges(t *testing.T) {
	p := changed(pictureOf(8, 8, make([]float32, 64)...), func(i int, _ float32) float32 { return float32(i % 8 / 4 * 1000) })
	edge, _ := impl.EdgeFilter(p, 3, 1)
	guide, _ := impl.GuidedFilter(p, 3, 1)
	box, _ := impl.BoxMean(p, 3)
	for i, light := range p.Lights {
		if math.Abs(float64(edge.Lights[i]-light)) > 1 || math.Abs(float64(guide.Lights[i]-light)) > 1 {
			t.Errorf("the pixel %d: got %v and %v, want nearly %v", i, edge.Lights[i], guide.Lights[i], light)
		}
		if (i%8 == 3 || i%8 == 4) && math.Abs(float64(box.Lights[i]-light)) < 300 {
			t.Errorf("BoxMean at the edge: got %v", box.Lights[i])
		}
	}
}

func halo(a, b impl.Picture) float32 {
	most := float32(0)
	for pixel, light := range b.Lights {
		for _, beyond := range []func(other float32) float32{
			func(other float32) float32 { return less(light, other) },
			func(other float32) float32 { return less(other, light) },
		} {
			least := num(infBits)
			for _, i := range windowOf(a, pixel, 1) {
				least = min(least, beyond(a.Lights[i]))
			}
			most = max(most, least)
		}
	}
	return most
}

func TestHaloOf(t *testing.T) {
	zero, tiny, max := num(minusZero), num(tiniest), num(greatest)
	row := pictureOf(3, 1, 1, 2, 6)
	square := func(at int, light float32) impl.Picture {
		return changed(pictureOf(5, 5, make([]float32, 25)...), func(i int, _ float32) float32 {
			if i == at {
				return light
			}
			return 0
		})
	}
	for _, c := range []struct {
		a, b impl.Picture
		want float32
	}{
		{row, pictureOf(3, 1, 0.5, 1, 8), 2},
		{row, pictureOf(3, 1, -2, 1, 8), 3},
		{row, row, 0},
		{row, pictureOf(3, 1, 2, 6, 2), 0},
		{row, pictureOf(3, 1, 3, 2, 3), 1},
		{row, pictureOf(3, 1, 1, 7, 3), 1},
		{row, pictureOf(3, 1, 1, 0.5, 3), 0.5},
		{row, pictureOf(3, 1, 1, 3, 1), 1},
		{nine(), pictureOf(3, 3, 5, 6, 6, 8, 9, 9, 8, 9, 9), 0},
		{nine(), pictureOf(3, 3, 1, 1, 2, 1, 1, 2, 4, 4, 5), 0},
		{nine(), pictureOf(3, 3, 1, 2, 3, 4, 5, 6, 7, 3.5, 9), 0.5},
		{nine(), pictureOf(3, 3, 1, 2, 6.25, 4, 5, 6, 7, 8, 9), 0.25},
		{pictureOf(1, 1, 0), pictureOf(1, 1, zero), 0},
		{pictureOf(1, 1, zero), pictureOf(1, 1, 0), 0},
		{pictureOf(1, 1, zero), pictureOf(1, 1, zero), 0},
		{pictureOf(1, 1, 0), pictureOf(1, 1, num(0x80000001)), tiny},
		{pictureOf(1, 1, max), pictureOf(1, 1, 0), max},
		{pictureOf(2, 1, -max, max), pictureOf(2, 1, max, -max), 0},
		// What is nearest at each pixel is rounded on its own.
		{pictureOf(1, 1, 1), pictureOf(1, 1, 0x1p25), 0x1p25},
		{square(12, 1), square(12, 1), 0},
		{square(12, 1), square(6, 1), 0},
		{square(12, 1), square(18, 1), 0},
		{square(12, 1), square(17, 3), 2},
		{square(12, 1), square(11, -3), 3},
		{square(12, 1), square(14, 1), 1},
		{square(12, 1), square(2, 1), 1},
		{square(0, 1), square(6, 1), 0},
		{square(0, 1), square(2, 1), 1},
		{square(24, 1), square(18, 1), 0},
		{square(4, 1), square(5, 1), 1}, // the next index, but not the next pixel
	} {
		wantSum(t, fmt.Sprintf("HaloOf %v and %v", c.a, c.b), c.want, true)(impl.HaloOf(c.a, c.b))
	}
	pictures := tonePictures()
	for i, a := range pictures {
		for k := i - i%3; k < i-i%3+3; k++ {
			wantSumIfFinite(t, fmt.Sprintf("HaloOf %d and %d", i, k), halo(a, pictures[k]))(impl.HaloOf(a, pictures[k]))
		}
		for radius := int64(0); radius <= 3; radius++ {
			if mean, ok := impl.BoxMean(a, radius); ok {
				wantSumIfFinite(t, fmt.Sprintf("HaloOf %d and its means", i), halo(a, mean))(impl.HaloOf(a, mean))
			}
		}
	}
}

func TestHaloOfFails(t *testing.T) {
	p, max := pictureOf(2, 2, 1, 2, 3, 4), num(greatest)
	for what, bad := range badPictures() {
		wantSum(t, "HaloOf "+what, 0, false)(impl.HaloOf(bad, p))
		wantSum(t, "HaloOf with "+what, 0, false)(impl.HaloOf(p, bad))
		wantSum(t, "HaloOf twice "+what, 0, false)(impl.HaloOf(bad, bad))
	}
	for _, q := range []impl.Picture{pictureOf(1, 1, 1), pictureOf(4, 1, 1, 2, 3, 4), pictureOf(1, 4, 1, 2, 3, 4), pictureOf(2, 1, 1, 2), pictureOf(3, 2, ones(6)...)} {
		wantSum(t, "HaloOf with other sides", 0, false)(impl.HaloOf(p, q))
		wantSum(t, "HaloOf with other sides, exchanged", 0, false)(impl.HaloOf(q, p))
	}
	wantSum(t, "HaloOf that is infinite above", 0, false)(impl.HaloOf(pictureOf(1, 1, -max), pictureOf(1, 1, max)))
	wantSum(t, "HaloOf that is infinite below", 0, false)(impl.HaloOf(pictureOf(1, 1, max), pictureOf(1, 1, -max)))
}
