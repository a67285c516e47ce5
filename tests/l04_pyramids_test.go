package tests

import (
	"fmt"
	"math"
	"testing"

	"loop.example/g01308/impl"
)

// halvedSides is a picture of half of the sides, each operation of which is rounded.
func halvedSides(p impl.Picture) impl.Picture {
	q := pictureOf((p.Wide+1)/2, (p.High+1)/2)
	for y := range q.High {
		for x := range q.Wide {
			sum, count := float32(0), float32(0)
			for _, at := range [][2]int64{{2 * x, 2 * y}, {2*x + 1, 2 * y}, {2 * x, 2*y + 1}, {2*x + 1, 2*y + 1}} {
				if at[0] < p.Wide && at[1] < p.High {
					sum, count = plus(sum, p.Lights[at[1]*p.Wide+at[0]]), count+1
				}
			}
			q.Lights = append(q.Lights, by(sum, count))
		}
	}
	return q
}

func doubled(p impl.Picture, wide, high int64) impl.Picture {
	q := pictureOf(wide, high)
	for y := range high {
		for x := range wide {
			q.Lights = append(q.Lights, p.Lights[(y/2)*p.Wide+x/2])
		}
	}
	return q
}

func pyramid(p impl.Picture, levels int) []impl.Picture {
	list := []impl.Picture{p}
	for k := 1; k < levels; k++ {
		half := halvedSides(list[k-1])
		double := doubled(half, list[k-1].Wide, list[k-1].High)
		list[k-1] = changed(list[k-1], func(i int, light float32) float32 { return less(light, double.Lights[i]) })
		list = append(list, half)
	}
	return list
}

func fromPyramid(list []impl.Picture) impl.Picture {
	last := len(list) - 1
	p := list[last]
	for k := last - 1; k >= 0; k-- {
		double := doubled(p, list[k].Wide, list[k].High)
		p = changed(list[k], func(i int, light float32) float32 { return plus(light, double.Lights[i]) })
	}
	return p
}

// allPictures have all sides, and lights of which all bits are in use.
func allPictures() []impl.Picture {
	var list []impl.Picture
	lights := someLights(300)
	for wide := int64(1); wide <= 16; wide++ {
		for high := int64(1); high <= 16; high++ {
			p := pictureOf(wide, high, lights[wide:wide+wide*high]...)
			list = append(list, changed(p, func(i int, light float32) float32 { return 5*light - float32(i%3) }))
		}
	}
	return list
}

func TestHalvePicture(t *testing.T) {
	zero := num(minusZero)
	for _, c := range []struct{ p, want impl.Picture }{
		{pictureOf(3, 1, 1, 2, 6), pictureOf(2, 1, 1.5, 6)},
		{pictureOf(1, 3, 1, 2, 6), pictureOf(1, 2, 1.5, 6)},
		{pictureOf(2, 2, 1, 2, 3, 6), pictureOf(1, 1, 3)},
		{pictureOf(3, 3, 1, 2, 3, 4, 5, 6, 7, 8, 9), pictureOf(2, 2, 3, 4.5, 7.5, 9)},
		{pictureOf(1, 1, 7), pictureOf(1, 1, 7)},
		{pictureOf(1, 1, zero), pictureOf(1, 1, 0)}, // a sum begins with +0
		{pictureOf(2, 1, zero, zero), pictureOf(1, 1, 0)},
		// The order of the sum: from left to right, and then the next row.
		{pictureOf(2, 2, 0x1p30, -0x1p30, 1, 1), pictureOf(1, 1, 0.5)},
		{pictureOf(2, 2, 0x1p30, 1, -0x1p30, 1), pictureOf(1, 1, 0.25)},
		{pictureOf(2, 2, 1, 1, 0x1p30, -0x1p30), pictureOf(1, 1, 0)},
		{pictureOf(2, 2, 1, 0x1p30, -0x1p30, 1), pictureOf(1, 1, 0.25)},
		{pictureOf(1, 1, num(greatest)), pictureOf(1, 1, num(greatest))},
	} {
		wantPicture(t, fmt.Sprintf("HalvePicture %v", c.p), c.want)(impl.HalvePicture(c.p))
	}
	for i, p := range append(tonePictures(), allPictures()...) {
		wantIfFinite(t, fmt.Sprintf("HalvePicture %d", i), halvedSides(p))(impl.HalvePicture(p))
	}
	for what, bad := range badPictures() {
		wantNoPicture(t, "HalvePicture of "+what)(impl.HalvePicture(bad))
	}
	wantNoPicture(t, "HalvePicture of an infinite sum")(impl.HalvePicture(pictureOf(3, 1, num(greatest), num(greatest), 1)))
	wantNoPicture(t, "HalvePicture of an infinite last sum")(impl.HalvePicture(pictureOf(3, 2, 1, 2, -num(greatest), 3, 4, -num(greatest))))
}

func TestDoublePicture(t *testing.T) {
	half := pictureOf(2, 1, 1.5, 6)
	for _, c := range []struct {
		wide, high int64
		want       []float32
	}{
		{3, 1, []float32{1.5, 1.5, 6}},
		{4, 1, []float32{1.5, 1.5, 6, 6}},
		{3, 2, []float32{1.5, 1.5, 6, 1.5, 1.5, 6}},
		{4, 2, []float32{1.5, 1.5, 6, 6, 1.5, 1.5, 6, 6}},
	} {
		wantPicture(t, fmt.Sprintf("DoublePicture to %d by %d", c.wide, c.high), pictureOf(c.wide, c.high, c.want...))(impl.DoublePicture(half, c.wide, c.high))
	}
	for _, p := range append(tonePictures(), allPictures()...) {
		for wide := int64(-1); wide <= 18; wide++ {
			for high := int64(-1); high <= 18; high++ {
				what := fmt.Sprintf("DoublePicture of %d by %d to %d by %d", p.Wide, p.High, wide, high)
				if wide >= 1 && wide <= 16 && high >= 1 && high <= 16 && p.Wide == (wide+1)/2 && p.High == (high+1)/2 {
					wantPicture(t, what, doubled(p, wide, high))(impl.DoublePicture(p, wide, high))
				} else {
					wantNoPicture(t, what)(impl.DoublePicture(p, wide, high))
				}
			}
		}
	}
	one := pictureOf(1, 1, num(minusZero))
	wantPicture(t, "DoublePicture of -0", pictureOf(2, 2, repeated(num(minusZero), 4)...))(impl.DoublePicture(one, 2, 2))
}

func TestDoublePictureFails(t *testing.T) {
	p := pictureOf(2, 1, 1.5, 6)
	for _, s := range append(badSides(), [2]int64{5, 1}, [2]int64{2, 1}, [2]int64{3, 3}, [2]int64{1, 3}, [2]int64{1, 1}, [2]int64{3, 0}, [2]int64{3, math.MaxInt64}, [2]int64{math.MaxInt64, 1}) {
		wantNoPicture(t, fmt.Sprintf("DoublePicture to %v", s))(impl.DoublePicture(p, s[0], s[1]))
	}
	for what, bad := range badPictures() {
		wantNoPicture(t, "DoublePicture of "+what)(impl.DoublePicture(bad, 2*bad.Wide, 2*bad.High))
		wantNoPicture(t, "DoublePicture to odd sides of "+what)(impl.DoublePicture(bad, 2*bad.Wide-1, 2*bad.High-1))
		wantNoPicture(t, "DoublePicture to 2 by 2 of "+what)(impl.DoublePicture(bad, 2, 2))
		wantNoPicture(t, "DoublePicture to 4 by 4 of "+what)(impl.DoublePicture(bad, 4, 4))
	}
}

// wantLevels tests a pyramid, and the picture that it leads back to, if all of their lights are finite.
func wantLevels(t *testing.T, what string, p impl.Picture, levels int) {
	t.Helper()
	want := pyramid(p, levels)
	for _, level := range want {
		if !allFinite(level.Lights) {
			wantNoList[impl.Picture](t, "PyramidOf "+what+", not finite")(impl.PyramidOf(p, int64(levels)))
			return
		}
	}
	wantPyramid(t, "PyramidOf "+what, want)(impl.PyramidOf(p, int64(levels)))
	wantIfFinite(t, "FromPyramid of PyramidOf "+what, fromPyramid(want))(impl.FromPyramid(want))
}

func TestPyramidOf(t *testing.T) {
	p := pictureOf(3, 1, 1, 2, 6)
	wantPyramid(t, "PyramidOf the example", []impl.Picture{pictureOf(3, 1, -0.5, 0.5, 0), pictureOf(2, 1, 1.5, 6)})(impl.PyramidOf(p, 2))
	wantPyramid(t, "PyramidOf one level", []impl.Picture{p})(impl.PyramidOf(p, 1))
	wantPyramid(t, "PyramidOf three levels", []impl.Picture{pictureOf(3, 1, -0.5, 0.5, 0), pictureOf(2, 1, -2.25, 2.25), pictureOf(1, 1, 3.75)})(impl.PyramidOf(p, 3))
	wantPyramid(t, "PyramidOf four levels", []impl.Picture{pictureOf(3, 1, -0.5, 0.5, 0), pictureOf(2, 1, -2.25, 2.25), pictureOf(1, 1, 0), pictureOf(1, 1, 3.75)})(impl.PyramidOf(p, 4))
	wantPyramid(t, "PyramidOf -0", []impl.Picture{pictureOf(1, 1, num(minusZero))})(impl.PyramidOf(pictureOf(1, 1, num(minusZero)), 1))
	wantPyramid(t, "PyramidOf -0, two levels", []impl.Picture{pictureOf(1, 1, num(minusZero)), pictureOf(1, 1, 0)})(impl.PyramidOf(pictureOf(1, 1, num(minusZero)), 2))
	for i, p := range append(tonePictures(), allPictures()...) {
		for levels := 1; levels <= 4; levels++ {
			wantLevels(t, fmt.Sprintf("%d in %d levels", i, levels), p, levels)
		}
	}
}

func TestPyramidOfFails(t *testing.T) {
	max := num(greatest)
	for _, levels := range []int64{0, -1, 5, math.MinInt64, math.MaxInt64} {
		wantNoList[impl.Picture](t, fmt.Sprintf("PyramidOf in %d levels", levels))(impl.PyramidOf(pictureOf(2, 1, 1, 2), levels))
	}
	for what, bad := range badPictures() {
		for levels := int64(1); levels <= 4; levels++ {
			wantNoList[impl.Picture](t, fmt.Sprintf("PyramidOf in %d levels of %s", levels, what))(impl.PyramidOf(bad, levels))
		}
	}
	for _, c := range []struct {
		what string
		p    impl.Picture
		most int64 // levels for which it succeeds
	}{
		{"an infinite sum", pictureOf(2, 1, max, max), 1},
		{"an infinite difference", pictureOf(2, 2, max, -max, -max, 0), 1},
		{"an infinite sum behind one level", pictureOf(3, 1, max, 0, max), 2},
		{"an infinite sum behind two levels", pictureOf(5, 1, max, 0, 0, 0, max), 3},
		{"no infinite sum", pictureOf(1, 1, max), 4},
		{"no infinite difference", pictureOf(2, 1, max, -max), 4},
	} {
		for levels := int64(1); levels <= 4; levels++ {
			list, ok := impl.PyramidOf(c.p, levels)
			wantBool(t, fmt.Sprintf("PyramidOf in %d levels with %s succeeds", levels, c.what), ok, levels <= c.most)
			if !ok && len(list) != 0 {
				t.Errorf("PyramidOf in %d levels with %s: got %v", levels, c.what, list)
			}
		}
	}
}

func TestFromPyramid(t *testing.T) {
	for i, c := range []struct {
		list []impl.Picture
		want impl.Picture
	}{
		{[]impl.Picture{pictureOf(3, 1, -0.5, 0.5, 0), pictureOf(2, 1, 1.5, 6)}, pictureOf(3, 1, 1, 2, 6)},
		{[]impl.Picture{pictureOf(3, 2, 1, 2, 3, 4, 5, num(minusZero))}, pictureOf(3, 2, 1, 2, 3, 4, 5, num(minusZero))},
		{[]impl.Picture{pictureOf(1, 1, 1), pictureOf(1, 1, 2), pictureOf(1, 1, 4), pictureOf(1, 1, 8)}, pictureOf(1, 1, 15)},
		// The sums begin with the last picture.
		{[]impl.Picture{pictureOf(1, 1, 1), pictureOf(1, 1, 0x1p25), pictureOf(1, 1, -0x1p25)}, pictureOf(1, 1, 1)},
		{[]impl.Picture{pictureOf(1, 1, -0x1p25), pictureOf(1, 1, 0x1p25), pictureOf(1, 1, 1)}, pictureOf(1, 1, 0)},
		{[]impl.Picture{pictureOf(1, 1, num(minusZero)), pictureOf(1, 1, num(minusZero))}, pictureOf(1, 1, num(minusZero))},
		{[]impl.Picture{pictureOf(2, 3, 1, 2, 3, 4, 5, 6), pictureOf(1, 2, 10, 20)}, pictureOf(2, 3, 11, 12, 13, 14, 25, 26)},
	} {
		wantPicture(t, fmt.Sprintf("FromPyramid %d", i), c.want)(impl.FromPyramid(c.list))
	}
	// Lists that are no pyramids of a picture are taken, too, if their sides fit.
	pictures := allPictures()
	at := func(wide, high int64) impl.Picture { return pictures[(wide-1)*16+high-1] }
	for wide := int64(1); wide <= 16; wide++ {
		for high := int64(1); high <= 16; high++ {
			list := []impl.Picture{at(wide, high), at((wide+1)/2, (high+1)/2), at((wide+3)/4, (high+3)/4), at((wide+7)/8, (high+7)/8)}
			for n := 1; n <= 4; n++ {
				wantPicture(t, fmt.Sprintf("FromPyramid of %d from %d by %d on", n, wide, high), fromPyramid(list[:n]))(impl.FromPyramid(list[:n]))
			}
		}
	}
}

func TestFromPyramidFails(t *testing.T) {
	max, one := num(greatest), pictureOf(1, 1, 1)
	for what, list := range map[string][]impl.Picture{
		"no pictures":                 {},
		"nil":                         nil,
		"five pictures":               repeated(one, 5),
		"equal sides":                 repeated(pictureOf(2, 2, 1, 2, 3, 4), 2),
		"a half that is too narrow":   {pictureOf(3, 1, 1, 2, 3), one},
		"a half that is too wide":     {pictureOf(2, 1, 1, 2), pictureOf(2, 1, 1, 2)},
		"a half that is too high":     {pictureOf(1, 2, 1, 2), pictureOf(1, 2, 1, 2)},
		"a half that is not so high":  {pictureOf(1, 3, 1, 2, 3), one},
		"exchanged sides":             {pictureOf(4, 2, 1, 2, 3, 4, 5, 6, 7, 8), pictureOf(1, 2, 1, 2)},
		"the wrong order":             {one, pictureOf(2, 1, 1, 2)},
		"a level that is left out":    {pictureOf(4, 4, ones(16)...), one},
		"sides that do not fit later": {pictureOf(4, 1, ones(4)...), pictureOf(2, 1, 1, 2), pictureOf(2, 1, 1, 2)},
		"sides that fit only later":   {pictureOf(5, 1, ones(5)...), pictureOf(2, 1, 1, 2), one},
		"an infinite sum":             {pictureOf(2, 1, 1, max), pictureOf(1, 1, max)},
		"an infinite sum of the last": {pictureOf(1, 1, -max), pictureOf(1, 1, max), pictureOf(1, 1, max)},
	} {
		wantNoPicture(t, "FromPyramid of "+what)(impl.FromPyramid(list))
	}
	for what, bad := range badPictures() {
		wantNoPicture(t, "FromPyramid of "+what)(impl.FromPyramid([]impl.Picture{bad}))
		wantNoPicture(t, "FromPyramid that begins with "+what)(impl.FromPyramid([]impl.Picture{bad, one}))
		wantNoPicture(t, "FromPyramid that ends with "+what)(impl.FromPyramid([]impl.Picture{pictureOf(2, 2, 1, 2, 3, 4), bad}))
		wantNoPicture(t, "FromPyramid with "+what)(impl.FromPyramid([]impl.Picture{pictureOf(4, 4, ones(16)...), bad, one}))
		wantNoPicture(t, "FromPyramid of four times "+what)(impl.FromPyramid(repeated(bad, 4)))
	}
}

// Promise 5: pyramids are put together to what they were made of, nearly.
func TestPyramidsLeadBack(t *testing.T) {
	for i, p := range append(allPictures(), litPictures()...) {
		greatest := 0.0
		for _, light := range p.Lights {
			greatest = max(greatest, math.Abs(float64(light)))
		}
		for levels := int64(1); levels <= 4 && greatest < 1e30; levels++ {
			list, ok := impl.PyramidOf(p, levels)
			if !ok || int64(len(list)) != levels {
				t.Fatalf("PyramidOf %d in %d levels: got %v, %v", i, levels, list, ok)
			}
			back, ok := impl.FromPyramid(list)
			if !ok || back.Wide != p.Wide || back.High != p.High {
				t.Fatalf("FromPyramid of %d in %d levels: got %v, %v", i, levels, back, ok)
			}
			for k, light := range back.Lights {
				if math.Abs(float64(light)-float64(p.Lights[k])) > 1e-6*greatest {
					t.Errorf("FromPyramid of %d in %d levels: got %v, want %v", i, levels, light, p.Lights[k])
				}
			}
		}
	}
}

// Small integers are put together exactly where only powers of two divide them.
func TestPyramidsOfIntegersLeadBackExactly(t *testing.T) {
	for wide := int64(1); wide <= 16; wide++ {
		for high := int64(1); high <= 16; high++ {
			p := changed(pictureOf(wide, high, make([]float32, wide*high)...), func(i int, _ float32) float32 { return float32(i*i%97 - 40) })
			for levels := int64(1); levels <= 4; levels++ {
				list, _ := impl.PyramidOf(p, levels)
				wantPicture(t, fmt.Sprintf("FromPyramid of %d by %d in %d levels", wide, high, levels), p)(impl.FromPyramid(list))
			}
		}
	}
}
