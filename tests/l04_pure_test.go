package tests

import (
	"math"
	"slices"
	"testing"

	"loop.example/g01308/impl"
)

// wholeCurve is all memory of a curve, with the unused room.
func wholeCurve(c impl.Curve) string {
	return told(whole(c.X)) + " and" + told(whole(c.Y))
}

// wholeList is all memory of a list of pictures, with the unused room.
func wholeList(list []impl.Picture) string {
	s := ""
	for _, p := range whole(list) {
		s += told(p.Wide, p.High, whole(p.Lights))
	}
	return s
}

// tonesOf are the results of all functions of chapter 4 that return pictures, with arguments for which most of them change little.
func tonesOf(p impl.Picture, list []impl.Picture, c impl.Curve) []impl.Picture {
	var results []impl.Picture
	keep := func(r impl.Picture, _ bool) {
		results = append(results, r)
	}
	keep(impl.CurvePicture(p, c))
	keep(impl.PowerPicture(p, 1))
	keep(impl.GlobalTone(p, 0.5, 2))
	keep(impl.EvenTone(p))
	keep(impl.HalvePicture(p))
	keep(impl.DoublePicture(p, 2*p.Wide, 2*p.High))
	keep(impl.DoublePicture(p, 2*p.Wide-1, 2*p.High-1))
	keep(impl.FromPyramid([]impl.Picture{p}))
	keep(impl.FromPyramid(list))
	keep(impl.BoxMean(p, 0))
	keep(impl.BoxMean(p, 2))
	keep(impl.BoxSpread(p, 1))
	keep(impl.GuidedFilter(p, 0, 1))
	keep(impl.GuidedFilter(p, 1, 0.1))
	keep(impl.EdgeFilter(p, 0, 1))
	keep(impl.EdgeFilter(p, 2, 0.1))
	keep(impl.LocalTone(p, 1))
	keep(impl.DetailTone(p, 1, 1, 0.5, 0.01))
	keep(impl.SharpenPicture(p, 0, 0))
	keep(impl.SharpenPicture(p, 1, 0.5))
	for levels := int64(1); levels <= 4; levels++ {
		pyramid, _ := impl.PyramidOf(p, levels)
		results = append(results, pyramid...)
	}
	return results
}

// ofTones are the results of all functions with pictures, lists and curves.
func ofTones(p, q impl.Picture, list []impl.Picture, c, d impl.Curve) string {
	s := told(impl.ValidCurve(c), impl.SameCurve(c, d)) + both(impl.ToneAt(c, 0.3)) + both(impl.BackCurve(c))
	for _, r := range tonesOf(p, list, c) {
		s += told(r)
	}
	s += both(impl.LogMean(p, 0.1)) + both(impl.ExponentCounts(p)) + both(impl.QuantileOf(p, 0)) + both(impl.QuantileOf(p, 0.4)) + both(impl.QuantileOf(p, 1))
	return s + both(impl.HaloOf(p, q))
}

// toneSamples are valid and invalid pictures, with and without room behind their lights.
func toneSamples() []impl.Picture {
	list := append(litPictures()[:30], tonePictures()[:30]...)
	for _, p := range list[:6] {
		list = append(list, impl.Picture{Wide: p.Wide, High: p.High, Lights: slices.Clip(slices.Clone(p.Lights))})
	}
	for _, p := range badPictures() {
		list = append(list, p)
	}
	return list
}

func curveSamples() []impl.Curve {
	list := append(toneCurves(), curveOf([]float32{0, 1, 2}, []float32{1, 2, 3}))
	for _, c := range badToneCurves() {
		list = append(list, c)
	}
	return list
}

func TestTonesAreNotChanged(t *testing.T) {
	pictures, curves := toneSamples(), curveSamples()
	for i, p := range pictures {
		for k := range 4 {
			q, c, d := pictures[(i+k)%len(pictures)], curves[(i+7*k)%len(curves)], curves[i%len(curves)]
			half, _ := impl.HalvePicture(p)
			list := slices.Grow([]impl.Picture{p, half, q}[:2+k%2], 3)
			memory := func() string {
				return told(whole(p.Lights), whole(q.Lights)) + wholeList(list) + wholeCurve(c) + wholeCurve(d)
			}
			before := memory()
			first := ofTones(p, q, list, c, d)
			if memory() != before {
				t.Fatalf("the picture %d: an argument is changed", i)
			}
			if again := ofTones(p, q, list, c, d); again != first {
				t.Fatalf("the picture %d: first%s, then%s", i, first, again)
			}
			tight := impl.Picture{Wide: p.Wide, High: p.High, Lights: slices.Clip(slices.Clone(p.Lights))}
			clipped := impl.Curve{X: slices.Clip(slices.Clone(c.X)), Y: slices.Clip(slices.Clone(c.Y))}
			if got := ofTones(tight, q, slices.Clip(slices.Clone(list)), clipped, d); got != first {
				t.Fatalf("the picture %d: the capacity is visible", i)
			}
		}
	}
}

// The lists are parts of longer ones, which no function may read or overwrite.
func TestUnusedRoomOfTonesIsNotChanged(t *testing.T) {
	marks := repeated(num(nanBits), 300)
	p := impl.Picture{Wide: 3, High: 3, Lights: slices.Concat(someLights(9), marks)[:9]}
	half := impl.Picture{Wide: 2, High: 2, Lights: slices.Concat(someLights(4), marks)[:4]}
	list := []impl.Picture{p, half, p, p, p, p}[:2]
	c := impl.Curve{X: slices.Concat([]float32{0, 0.5, 2}, marks)[:3], Y: slices.Concat([]float32{0, 0.7, 1}, marks)[:3]}
	memory := func() string { return wholeList(list) + wholeCurve(c) }
	before := memory()
	first := ofTones(p, p, list, c, c)
	if memory() != before {
		t.Error("a list or the room behind it is changed")
	}
	for _, numbers := range [][]float32{p.Lights, half.Lights, c.X, c.Y} {
		overwrite(numbers[len(numbers):], 0.5)
	}
	overwrite(list[2:], impl.Picture{})
	if again := ofTones(p, p, list, c, c); again != first {
		t.Error("the room behind a list is read")
	}
}

func TestTonesAreNewMemory(t *testing.T) {
	c := curveOf([]float32{0, 0.5, 2}, []float32{0, 0.5, 2})
	for i, p := range toneSamples() {
		half, _ := impl.HalvePicture(p)
		list := []impl.Picture{p, half}
		memory := func() string { return told(whole(p.Lights)) + wholeList(list) + wholeCurve(c) }
		before := memory()
		for k := range tonesOf(p, list, c) {
			results := tonesOf(p, list, c)
			others := make([]string, len(results))
			for j, r := range results {
				others[j] = told(whole(r.Lights))
			}
			overwrite(results[k].Lights, -77)
			if memory() != before {
				t.Fatalf("the picture %d: the result %d shares memory with an argument", i, k)
			}
			for j, r := range results {
				if j != k && told(whole(r.Lights)) != others[j] {
					t.Fatalf("the picture %d: the results %d and %d share memory", i, k, j)
				}
			}
		}
	}
}

func TestPyramidsAreNewMemory(t *testing.T) {
	p := steps(5, 3, 1, 0.25)
	first, _ := impl.PyramidOf(p, 4)
	second, _ := impl.PyramidOf(p, 4)
	before := told(second)
	overwrite(first, impl.Picture{})
	third, ok := impl.PyramidOf(p, 4)
	wantBool(t, "PyramidOf succeeds", ok, true)
	if told(second) != before || told(third) != before {
		t.Error("lists of PyramidOf share memory")
	}
	// A list may have one picture twice: its lights are the same memory.
	one := pictureOf(1, 1, 3)
	list := []impl.Picture{one, one, one}
	wantPicture(t, "FromPyramid of one picture three times", pictureOf(1, 1, 9))(impl.FromPyramid(list))
	wantNumber(t, "the light of a picture in a list", one.Lights[0], 3)
}

func TestCurvesAreNewMemory(t *testing.T) {
	numbers := slices.Grow([]float32{0, 1, 2}, 3)
	// Both lists of this curve are the same memory.
	for _, c := range []impl.Curve{{X: numbers, Y: numbers}, curveOf([]float32{0, 1}, []float32{3, 4}), {X: []float32{0, 1}, Y: []float32{3, 4}}} {
		before := wholeCurve(c)
		for range 2 {
			back, ok := impl.BackCurve(c)
			wantCurve(t, "BackCurve", impl.Curve{X: c.Y, Y: c.X})(back, ok)
			y := told(whole(back.Y))
			overwrite(back.X, -77)
			if told(whole(back.Y)) != y {
				t.Error("both lists of BackCurve share memory")
			}
			overwrite(back.Y, -78)
			if wholeCurve(c) != before {
				t.Error("BackCurve shares memory with its argument")
			}
		}
	}
}

func TestCountsAreNewMemory(t *testing.T) {
	p := pictureOf(2, 1, 1, 2)
	first, _ := impl.ExponentCounts(p)
	second, _ := impl.ExponentCounts(p)
	before := told(second)
	overwrite(first, 99)
	third, _ := impl.ExponentCounts(p)
	if told(second) != before || told(third) != before {
		t.Error("lists of ExponentCounts share memory")
	}
}

// ofToneNumbers are the results of all functions of chapter 4 with numbers.
func ofToneNumbers(x, y, z, w float32, n, m int64) string {
	c, p, q := curveOf([]float32{x, y}, []float32{z, w}), pictureOf(2, 1, x, y), pictureOf(2, 2, 0.25, 1, 4, 3)
	s := told(impl.ValidCurve(c), impl.SameCurve(c, c)) + both(impl.ToneAt(c, w)) + both(impl.BackCurve(c)) + both(impl.CurvePicture(p, c)) + both(impl.CurvePicture(q, c))
	s += both(impl.ToneAt(curveOf([]float32{0, 1, 2}, []float32{x, y, z}), w))
	s += both(impl.PressedLight(x, y)) + both(impl.FilmLight(x)) + both(impl.QuantileOf(q, x)) + both(impl.PowerPicture(p, z)) + both(impl.PowerPicture(q, x))
	s += both(impl.LogMean(p, z)) + both(impl.LogMean(q, x)) + both(impl.GlobalTone(p, z, w)) + both(impl.GlobalTone(q, x, y)) + both(impl.ExponentCounts(p)) + both(impl.QuantileOf(p, z))
	for _, r := range tonesOf(p, []impl.Picture{p, pictureOf(1, 1, z)}, c) {
		s += told(r)
	}
	s += both(impl.DoublePicture(p, n, m)) + both(impl.PyramidOf(p, n)) + both(impl.PyramidOf(q, m)) + both(impl.BoxMean(q, n)) + both(impl.BoxSpread(q, n))
	s += both(impl.GuidedFilter(q, n, x)) + both(impl.EdgeFilter(q, n, x)) + both(impl.LocalTone(q, n)) + both(impl.DetailTone(q, n, x, y, z)) + both(impl.SharpenPicture(q, n, x))
	return s + both(impl.HaloOf(p, pictureOf(2, 1, z, w)))
}

func TestFunctionsReturnForAllTones(t *testing.T) {
	integers := []int64{math.MinInt64, -17, -1, 0, 1, 2, 3, 4, 5, 8, 9, 16, 17, 31, 32, math.MaxInt32, math.MaxInt64 - 1, math.MaxInt64}
	numbers := oddNumbers()
	i := 0
	for _, x := range numbers {
		for _, y := range numbers {
			z, w := numbers[i*7%len(numbers)], numbers[i*11%len(numbers)]
			n, m := integers[i%len(integers)], integers[i/5%len(integers)]
			first := ofToneNumbers(x, y, z, w, n, m)
			if again := ofToneNumbers(x, y, z, w, n, m); again != first {
				t.Fatalf("functions of %v, %v, %v, %v, %d and %d: first%s, then%s", x, y, z, w, n, m, first, again)
			}
			i++
		}
	}
	for _, n := range integers {
		for _, m := range integers {
			ofToneNumbers(1, 2, 3, 4, n, m)
		}
	}
}

func TestTonesOfAllNotANumbersAreEqual(t *testing.T) {
	with := func(x float32) string {
		return ofToneNumbers(x, 1, 2, 3, 2, 1) + ofToneNumbers(1, x, 2, 3, 2, 1) + ofToneNumbers(1, 2, x, 3, 2, 1) + ofToneNumbers(1, 2, 3, x, 2, 1)
	}
	first := with(num(nanBits))
	for _, bits := range []uint32{0x7f800001, 0x7fffffff, 0xff800001, 0xffc00000, 0xffffffff} {
		if got := with(num(bits)); got != first {
			t.Errorf("functions of %08x: got%s, want%s", bits, got, first)
		}
	}
}

func TestTonesOfNilAndEmptyListsAreEqual(t *testing.T) {
	empty := impl.Picture{Lights: []float32{}}
	if got, want := ofTones(empty, empty, []impl.Picture{}, impl.Curve{X: []float32{}, Y: []float32{}}, impl.Curve{}), ofTones(impl.Picture{}, impl.Picture{}, nil, impl.Curve{}, impl.Curve{}); got != want {
		t.Errorf("empty lists: got%s, want%s", got, want)
	}
}
