package tests

import (
	"fmt"
	"math"
	"slices"
	"sort"
	"testing"

	"loop.example/g01308/impl"
)

func root(x float32) float32 { return float32(math.Sqrt(float64(x))) }

func noise(a, b impl.Picture) float32 {
	sum := float32(0)
	for i := range a.Lights {
		d := less(a.Lights[i], b.Lights[i])
		sum = plus(sum, times(d, d))
	}
	return root(by(sum, float32(2*len(a.Lights))))
}

func TestNoiseBetween(t *testing.T) {
	zero, max := num(minusZero), num(greatest)
	for _, c := range []struct {
		a, b impl.Picture
		want float32
	}{
		{pictureOf(2, 1, 1, 1), pictureOf(2, 1, 3, 3), 1.4142135},
		{pictureOf(1, 1, 1), pictureOf(1, 1, 1), 0},
		{pictureOf(1, 1, zero), pictureOf(1, 1, 0), 0},
		{pictureOf(1, 2, 3, -1), pictureOf(1, 2, -1, 1), root(5)},
		{pictureOf(1, 1, max), pictureOf(1, 1, max), 0},
		{pictureOf(1, 1, -2), pictureOf(1, 1, 0), root(2)},
		{pictureOf(1, 1, num(tiniest)), pictureOf(1, 1, 0), 0},
		{pictureOf(1, 1, 0x1p63), pictureOf(1, 1, 0), root(0x1p125)},
	} {
		what := fmt.Sprintf("NoiseBetween %v and %v", c.a, c.b)
		wantSum(t, what, c.want, true)(impl.NoiseBetween(c.a, c.b))
		wantSum(t, what+", exchanged", c.want, true)(impl.NoiseBetween(c.b, c.a))
	}
	lights := someLights(600)
	for wide := int64(1); wide <= 16; wide++ {
		for high := int64(1); high <= 16; high += 3 {
			a, b := pictureOf(wide, high, lights[:wide*high]...), pictureOf(wide, high, lights[300:300+wide*high]...)
			wantSum(t, fmt.Sprintf("NoiseBetween of %d by %d", wide, high), noise(a, b), true)(impl.NoiseBetween(a, b))
		}
	}
}

func TestNoiseBetweenFails(t *testing.T) {
	p, max := pictureOf(2, 2, 1, 2, 3, 4), num(greatest)
	for what, bad := range badPictures() {
		wantSum(t, "NoiseBetween of "+what, 0, false)(impl.NoiseBetween(bad, p))
		wantSum(t, "NoiseBetween with "+what, 0, false)(impl.NoiseBetween(p, bad))
		wantSum(t, "NoiseBetween twice "+what, 0, false)(impl.NoiseBetween(bad, bad))
	}
	for _, q := range []impl.Picture{pictureOf(1, 1, 1), pictureOf(4, 1, 1, 2, 3, 4), pictureOf(1, 4, 1, 2, 3, 4), pictureOf(2, 1, 1, 2)} {
		wantSum(t, "NoiseBetween with other sides", 0, false)(impl.NoiseBetween(p, q))
		wantSum(t, "NoiseBetween with other sides, exchanged", 0, false)(impl.NoiseBetween(q, p))
	}
	wantSum(t, "NoiseBetween with an infinite difference", 0, false)(impl.NoiseBetween(pictureOf(1, 1, max), pictureOf(1, 1, -max)))
	wantSum(t, "NoiseBetween with an infinite square", 0, false)(impl.NoiseBetween(pictureOf(1, 1, 0x1p64), pictureOf(1, 1, 0)))
	wantSum(t, "NoiseBetween with an infinite sum", 0, false)(impl.NoiseBetween(pictureOf(2, 1, 0x1.8p63, 0x1.8p63), pictureOf(2, 1, 0, 0)))
}

func TestClearnessOf(t *testing.T) {
	zero, tiny, max := num(minusZero), num(tiniest), num(greatest)
	for _, c := range []struct {
		light, time, shot, read, want float32
	}{
		{4, 1, 0, 2, 2},
		{4, 1, 1, 0, 2},
		{4, 4, 1, 3, 3.2},
		{2, 8, 4, 6, 1.6},
		{0, 1, 1, 1, 0},
		{zero, 1, 1, 1, zero},
		{1, zero, zero, 1, zero},
		{zero, zero, 1, 1, 0},
		{1, 1, 0, zero, 0}, // its root is 0, and it fails
		{1, 0, 1, 0, 0},    // so does this one
		{0, 0, 0, 0, 0},    // and this one
		{1, 1, 0, tiny, 0}, // and this one, whose square is 0
		{1, 1, tiny, 0, by(1, root(tiny))},
		{1, 1, 0, 0x1p-74, 0x1p74},
		// The root is infinite, and what is divided by it is not.
		{1, 1, 0, 0x1p64, 0},
		{max, 1, 2, 0, 0},
		{max, 0.5, 0, max, 0},
		// The product of light and time is divided, and not the light.
		{max, 0.25, 0, 1, max / 4},
		{tiny, 0.25, 0, 1, 0},
		{0x1p100, 0x1p20, 0x1p-60, 0, 0x1p90},
	} {
		what := fmt.Sprintf("ClearnessOf %v, %v, %v, %v", c.light, c.time, c.shot, c.read)
		signal := times(c.light, c.time)
		sum := plus(times(signal, c.shot), times(c.read, c.read))
		wantSum(t, what, c.want, sum > 0)(impl.ClearnessOf(c.light, c.time, c.shot, c.read))
	}
	list := someLights(200)
	for i := 3; i < len(list); i++ {
		light, time, shot, read := 9*list[i], list[i-1], list[i-2], list[i-3]
		want := by(times(light, time), root(plus(times(times(light, time), shot), times(read, read))))
		wantSum(t, fmt.Sprintf("ClearnessOf %v, %v, %v, %v", light, time, shot, read), want, true)(impl.ClearnessOf(light, time, shot, read))
	}
}

func TestClearnessOfFails(t *testing.T) {
	for _, x := range append(notFinite(), -1, num(0x80000001), -num(greatest)) {
		what := fmt.Sprintf("ClearnessOf with %v as", x)
		wantSum(t, what+" light", 0, false)(impl.ClearnessOf(x, 1, 1, 1))
		wantSum(t, what+" time", 0, false)(impl.ClearnessOf(1, x, 1, 1))
		wantSum(t, what+" light and time", 0, false)(impl.ClearnessOf(x, x, 1, 1))
		wantSum(t, what+" shot", 0, false)(impl.ClearnessOf(1, 1, x, 1))
		wantSum(t, what+" shot that does not matter", 0, false)(impl.ClearnessOf(1, 1, x, 1e6))
		wantSum(t, what+" read", 0, false)(impl.ClearnessOf(1, 1, 1, x))
	}
	max := num(greatest)
	wantSum(t, "ClearnessOf an infinite signal", 0, false)(impl.ClearnessOf(max, 2, 1, 1))
	wantSum(t, "ClearnessOf an infinite signal without shot", 0, false)(impl.ClearnessOf(max, 2, 0, 1))
	wantSum(t, "ClearnessOf that is infinite", 0, false)(impl.ClearnessOf(max, 1, 0, 0.5))
}

func TestMedianLight(t *testing.T) {
	zero, max := num(minusZero), num(greatest)
	for _, c := range []struct {
		lights []float32
		want   float32
	}{
		{[]float32{7}, 7},
		{[]float32{5, 1}, 1},
		{[]float32{1, 5}, 1},
		{[]float32{5, 1, 3}, 3},
		{[]float32{5, 1, 3, 2}, 2},
		{[]float32{3, 3, 3, 3}, 3},
		{[]float32{1, 3, 3, 1}, 1},
		{[]float32{1, 3, 3, 1, 3}, 3},
		{[]float32{max, -max, 0}, 0},
		{[]float32{-1, -2, -3, -4, -5}, -3},
		// Equal zeros keep the order of their pixels.
		{[]float32{0, zero}, 0},
		{[]float32{zero, 0}, zero},
		{[]float32{0, zero, 0}, zero},
		{[]float32{zero, 0, zero}, 0},
		{[]float32{zero, 0, 0, zero}, 0},
		{[]float32{0, 0, zero, 1, -1}, 0},
		{[]float32{0, zero, 0, 1, -1}, zero},
		{[]float32{1, zero, 0, -1, -2, 3, 0}, 0},
		{[]float32{1, 0, zero, -1, -2, 3, 0}, zero},
		{[]float32{num(tiniest), zero, num(0x80000001)}, zero},
	} {
		p := pictureOf(int64(len(c.lights)), 1, c.lights...)
		wantSum(t, fmt.Sprintf("MedianLight of %v", c.lights), c.want, true)(impl.MedianLight(p))
	}
	lights := someNumbers(256)
	for wide := int64(1); wide <= 16; wide++ {
		for high := int64(1); high <= 16; high++ {
			p := pictureOf(wide, high, lights[:wide*high]...)
			sorted := slices.Sorted(slices.Values(p.Lights))
			wantSum(t, fmt.Sprintf("MedianLight of %d by %d", wide, high), sorted[(wide*high-1)/2], true)(impl.MedianLight(p))
		}
	}
	for what, bad := range badPictures() {
		wantSum(t, "MedianLight of "+what, 0, false)(impl.MedianLight(bad))
	}
}

func TestMedianLightKeepsTheOrderOfZeros(t *testing.T) {
	seed := uint32(1)
	for round := range 300 {
		p := pictureOf(16, 16, make([]float32, 256)...)
		for i := range p.Lights {
			seed = seed*1664525 + 1013904223
			p.Lights[i] = []float32{0, num(minusZero), 1, -1}[seed>>30]
		}
		sorted := slices.Clone(p.Lights)
		sort.SliceStable(sorted, func(i, k int) bool { return sorted[i] < sorted[k] })
		wantSum(t, fmt.Sprintf("MedianLight in round %d", round), sorted[127], true)(impl.MedianLight(p))
	}
}

func inside(at, long int64) int64 {
	if at < 0 {
		return 0
	}
	if at >= long {
		return long - 1
	}
	return at
}

func shifted(p impl.Picture, x, y int64) impl.Picture {
	q := pictureOf(p.Wide, p.High, p.Lights...)
	for j := range p.High {
		for i := range p.Wide {
			q.Lights[j*p.Wide+i] = p.Lights[inside(j-y, p.High)*p.Wide+inside(i-x, p.Wide)]
		}
	}
	return q
}

func TestShiftPicture(t *testing.T) {
	p := pictureOf(3, 2, 1, 2, 3, 4, 5, 6)
	for _, c := range []struct {
		x, y int64
		want []float32
	}{
		{0, 0, []float32{1, 2, 3, 4, 5, 6}},
		{1, 0, []float32{1, 1, 2, 4, 4, 5}},
		{-1, 0, []float32{2, 3, 3, 5, 6, 6}},
		{0, 1, []float32{1, 2, 3, 1, 2, 3}},
		{0, -1, []float32{4, 5, 6, 4, 5, 6}},
		{2, 1, []float32{1, 1, 1, 1, 1, 1}},
		{-2, -1, []float32{6, 6, 6, 6, 6, 6}},
		{16, 16, []float32{1, 1, 1, 1, 1, 1}},
		{-16, -16, []float32{6, 6, 6, 6, 6, 6}},
		{16, -16, []float32{4, 4, 4, 4, 4, 4}},
		{-16, 16, []float32{3, 3, 3, 3, 3, 3}},
		{0, 16, []float32{1, 2, 3, 1, 2, 3}},
		{-16, 0, []float32{3, 3, 3, 6, 6, 6}},
	} {
		wantPicture(t, fmt.Sprintf("ShiftPicture by %d and %d", c.x, c.y), pictureOf(3, 2, c.want...))(impl.ShiftPicture(p, c.x, c.y))
	}
	for _, s := range [][2]int64{{1, 1}, {5, 3}, {16, 16}, {1, 16}, {16, 1}} {
		p := steps(s[0], s[1], -3, 0.25)
		p.Lights[0] = num(minusZero)
		for x := int64(-16); x <= 16; x++ {
			for y := int64(-16); y <= 16; y++ {
				wantPicture(t, fmt.Sprintf("ShiftPicture %v by %d and %d", s, x, y), shifted(p, x, y))(impl.ShiftPicture(p, x, y))
			}
		}
	}
}

func TestShiftPictureFails(t *testing.T) {
	p := steps(16, 16, 0, 1)
	for _, n := range []int64{-17, 17, math.MinInt64, math.MaxInt64, 1 << 32} {
		wantNoPicture(t, fmt.Sprintf("ShiftPicture by %d and 0", n))(impl.ShiftPicture(p, n, 0))
		wantNoPicture(t, fmt.Sprintf("ShiftPicture by 0 and %d", n))(impl.ShiftPicture(p, 0, n))
		wantNoPicture(t, fmt.Sprintf("ShiftPicture by %d and itself", n))(impl.ShiftPicture(p, n, n))
	}
	for what, bad := range badPictures() {
		wantNoPicture(t, "ShiftPicture of "+what)(impl.ShiftPicture(bad, 0, 0))
	}
}

func middle(p impl.Picture) float32 {
	return slices.Sorted(slices.Values(p.Lights))[(len(p.Lights)-1)/2]
}

func bestShift(a, b impl.Picture, most int64) [3]int64 {
	best := [3]int64{0, 0, math.MaxInt64}
	ofA, ofB := middle(a), middle(b)
	for y := -most; y <= most; y++ {
		for x := -most; x <= most; x++ {
			n := int64(0)
			for i, light := range shifted(b, x, y).Lights {
				if (light > ofB) != (a.Lights[i] > ofA) {
					n++
				}
			}
			if n < best[2] {
				best = [3]int64{x, y, n}
			}
		}
	}
	return best
}

func wantShift(t *testing.T, what string, a, b impl.Picture, most int64, want [3]int64) {
	t.Helper()
	x, y, n, ok := impl.BestShift(a, b, most)
	if got := [3]int64{x, y, n}; !ok || got != want {
		t.Errorf("BestShift %s, %d at most: got %v, %v, want %v", what, most, got, ok, want)
	}
}

func TestBestShift(t *testing.T) {
	wantShift(t, "to the left", pictureOf(5, 1, 1, 1, 5, 1, 1), pictureOf(5, 1, 1, 5, 1, 1, 1), 1, [3]int64{1, -1, 0})
	dot := func(at int, light float32) impl.Picture {
		p := pictureOf(5, 5, make([]float32, 25)...)
		p.Lights[at] = light
		return p
	}
	for _, c := range []struct {
		what string
		a, b impl.Picture
		most int64
		want [3]int64
	}{
		{"of a dot", dot(12, 1), dot(12, 7), 4, [3]int64{0, 0, 0}},
		{"of a dot on the right", dot(13, 1), dot(12, 7), 1, [3]int64{1, 0, 0}},
		{"of a dot above", dot(7, 1), dot(12, 7), 1, [3]int64{0, -1, 0}},
		{"of a dot below on the left", dot(16, 1), dot(12, 7), 1, [3]int64{-1, 1, 0}},
		{"of a dot that is not moved", dot(13, 1), dot(12, 7), 0, [3]int64{0, 0, 2}},
		{"of a dot in a corner and one in the middle", dot(0, 1), dot(12, 7), 2, [3]int64{-2, -2, 0}},
		// Where the corner is moved inside, its pixels outside are moved with it.
		{"of a dot in the middle and one in a corner", dot(12, 1), dot(0, 7), 2, [3]int64{-2, -2, 1}},
		// All shifts are equally good: the first one is taken.
		{"of even pictures", pictureOf(3, 3, ones(9)...), pictureOf(3, 3, ones(9)...), 4, [3]int64{-4, -4, 0}},
		{"of even pictures that are not moved", pictureOf(3, 3, ones(9)...), pictureOf(3, 3, ones(9)...), 0, [3]int64{0, 0, 0}},
		{"of one pixel", pictureOf(1, 1, 3), pictureOf(1, 1, 9), 4, [3]int64{-4, -4, 0}},
		{"of rows", pictureOf(3, 1, 0, 0, 1), pictureOf(3, 1, 0, 0, 1), 1, [3]int64{0, -1, 0}},
		{"of columns", pictureOf(1, 3, 0, 0, 1), pictureOf(1, 3, 0, 0, 1), 1, [3]int64{-1, 0, 0}},
		{"of opposite rows", pictureOf(2, 1, 0, 1), pictureOf(2, 1, 1, 0), 2, [3]int64{-2, -2, 1}},
		{"of opposite rows that are not moved", pictureOf(2, 1, 0, 1), pictureOf(2, 1, 1, 0), 0, [3]int64{0, 0, 2}},
		{"of zeros", pictureOf(2, 1, 0, num(minusZero)), pictureOf(2, 1, num(minusZero), 0), 1, [3]int64{-1, -1, 0}},
	} {
		wantShift(t, c.what, c.a, c.b, c.most, c.want)
		if got := bestShift(c.a, c.b, c.most); got != c.want {
			t.Errorf("the shift of the test's own, %s: got %v, want %v", c.what, got, c.want)
		}
	}
}

func TestBestShiftOfManyPictures(t *testing.T) {
	lights := someLights(900)
	for round, s := range [][2]int64{{1, 1}, {2, 2}, {4, 3}, {5, 5}, {16, 1}, {1, 16}, {7, 2}, {16, 16}} {
		size := s[0] * s[1]
		a := pictureOf(s[0], s[1], lights[:size]...)
		for most := int64(0); most <= 4; most++ {
			for x := -most; x <= most; x += 2 {
				b := shifted(a, x, most-1)
				wantShift(t, fmt.Sprintf("of round %d, %d", round, x), a, b, most, bestShift(a, b, most))
			}
			b := pictureOf(s[0], s[1], lights[size:2*size]...)
			wantShift(t, fmt.Sprintf("of other pictures of round %d", round), a, b, most, bestShift(a, b, most))
		}
	}
}

func TestBestShiftFails(t *testing.T) {
	p := pictureOf(2, 2, 1, 2, 3, 4)
	want := func(what string, a, b impl.Picture, most int64) {
		t.Helper()
		if x, y, n, ok := impl.BestShift(a, b, most); ok || x != 0 || y != 0 || n != 0 {
			t.Errorf("BestShift %s: got %d, %d, %d, %v", what, x, y, n, ok)
		}
	}
	for _, most := range []int64{-1, 5, math.MinInt64, math.MaxInt64} {
		want(fmt.Sprintf("%d at most", most), p, p, most)
	}
	for what, bad := range badPictures() {
		want("of "+what, bad, p, 1)
		want("with "+what, p, bad, 1)
		want("twice "+what, bad, bad, 1)
	}
	want("with other sides", pictureOf(2, 1, 1, 2), pictureOf(1, 2, 1, 2), 1)
	want("with another High", p, pictureOf(2, 1, 1, 2), 1)
	want("with another Wide", pictureOf(1, 2, 1, 2), p, 1)
}
