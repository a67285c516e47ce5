package tests

import (
	"fmt"
	"math"
	"slices"
	"sort"
	"testing"

	"loop.example/g01308/impl"
)

// countedAt is the index of the count of a light.
func countedAt(light float32) int {
	size := math.Abs(float64(light))
	for k := 39; k > 0; k-- {
		if size >= math.Ldexp(1, k-24) {
			return k
		}
	}
	return 0
}

func TestExponentCounts(t *testing.T) {
	one := func(light float32, k int) {
		t.Helper()
		want := make([]int64, 40)
		want[k] = 1
		wantList(t, fmt.Sprintf("ExponentCounts of %v", light), want)(impl.ExponentCounts(pictureOf(1, 1, light)))
	}
	for k := range 40 {
		least := float32(math.Ldexp(1, k-24))
		for _, light := range []float32{least, after(least), 1.5 * least, before(2 * least)} {
			one(light, k)
			one(-light, k)
		}
	}
	for _, light := range []float32{0, num(minusZero), num(tiniest), num(0x80000001), 0x1p-126, before(0x1p-126), 0x1p-25, before(0x1p-24), -before(0x1p-24), 0x1p-24, before(0x1p-23)} {
		one(light, 0)
	}
	for _, light := range []float32{0x1p15, -0x1p15, before(0x1p16), 0x1p16, -0x1p16, 0x1p127, num(greatest), -num(greatest)} {
		one(light, 39)
	}
	one(before(0x1p15), 38)
	one(0x1p-23, 1)
}

func TestExponentCountsOfPictures(t *testing.T) {
	for i, p := range tonePictures() {
		want := make([]int64, 40)
		for _, light := range p.Lights {
			want[countedAt(light)]++
		}
		wantList(t, fmt.Sprintf("ExponentCounts %d", i), want)(impl.ExponentCounts(p))
	}
	counts, ok := impl.ExponentCounts(pictureOf(2, 2, 1, 2, 2, 5))
	if !ok || len(counts) != 40 || counts[24] != 1 || counts[25] != 2 || counts[26] != 1 {
		t.Errorf("ExponentCounts of the example: got %v, %v", counts, ok)
	}
	all := make([]int64, 40)
	all[0] = 256
	wantList(t, "ExponentCounts of zeros", all)(impl.ExponentCounts(pictureOf(16, 16, make([]float32, 256)...)))
	for what, bad := range badPictures() {
		wantNoList[int64](t, "ExponentCounts of "+what)(impl.ExponentCounts(bad))
	}
}

func quantile(p impl.Picture, share float32) float32 {
	sorted := slices.Clone(p.Lights)
	sort.SliceStable(sorted, func(i, k int) bool { return sorted[i] < sorted[k] })
	return sorted[int(math.Floor(float64(times(share, float32(len(sorted)-1)))))]
}

func TestQuantileOf(t *testing.T) {
	zero, max := num(minusZero), num(greatest)
	for _, c := range []struct {
		lights []float32
		share  float32
		want   float32
	}{
		{[]float32{1, 2, 2, 5}, 0.5, 2},
		{[]float32{5, 1, 3, 2}, 0, 1},
		{[]float32{5, 1, 3, 2}, zero, 1},
		{[]float32{5, 1, 3, 2}, 1, 5},
		{[]float32{5, 1, 3, 2}, before(1), 3},
		{[]float32{5, 1, 3, 2}, num(tiniest), 1},
		{[]float32{5, 1, 3}, 0.5, 3},
		{[]float32{5, 1, 3}, before(0.5), 1},
		{[]float32{7}, 0, 7},
		{[]float32{7}, 0.7, 7},
		{[]float32{7}, 1, 7},
		{[]float32{3, 3, 3}, 0.9, 3},
		{[]float32{max, -max}, 0, -max},
		{[]float32{max, -max}, 1, max},
		// Equal zeros keep the order of their indices.
		{[]float32{0, zero}, 0, 0},
		{[]float32{0, zero}, 1, zero},
		{[]float32{zero, 0}, 0, zero},
		{[]float32{zero, 0}, 1, 0},
		{[]float32{0, 1, zero, -1, 0}, 0.25, 0},
		{[]float32{0, 1, zero, -1, 0}, 0.5, zero},
		{[]float32{0, 1, zero, -1, 0}, 0.75, 0},
	} {
		p := pictureOf(int64(len(c.lights)), 1, c.lights...)
		wantSum(t, fmt.Sprintf("QuantileOf %v at %v", c.lights, c.share), c.want, true)(impl.QuantileOf(p, c.share))
	}
	for i, p := range tonePictures() {
		shares := append(someLights(20), 0, 1, before(1), 0.5)
		for k := range p.Lights {
			share := by(float32(k), max32(1, float32(len(p.Lights)-1)))
			shares = append(shares, share, math.Nextafter32(share, 0), min(1, math.Nextafter32(share, 2)))
		}
		for _, share := range shares {
			wantSum(t, fmt.Sprintf("QuantileOf %d at %v", i, share), quantile(p, share), true)(impl.QuantileOf(p, share))
		}
	}
}

func max32(a, b float32) float32 { return max(a, b) }

// The product of share and a number of lights is a 32-bit number, which can be greater than what it is rounded from.
func TestQuantileOfRoundsTheProduct(t *testing.T) {
	p := steps(16, 16, 0, 1)
	rounded := 0
	for n := int64(2); n <= 16; n++ {
		for k := range n {
			share := float32(float64(k) / float64(n-1))
			for _, s := range []float32{share, math.Nextafter32(share, 0)} {
				if exact := math.Floor(float64(s) * float64(n-1)); exact != float64(quantile(pictureOf(n, 1, p.Lights[:n]...), s)) {
					rounded++
				}
				row := pictureOf(n, 1, p.Lights[:n]...)
				wantSum(t, fmt.Sprintf("QuantileOf %d lights at %v", n, s), quantile(row, s), true)(impl.QuantileOf(row, s))
			}
		}
	}
	if rounded == 0 {
		t.Error("no product is rounded to an integer")
	}
}

func TestQuantileOfKeepsTheOrderOfZeros(t *testing.T) {
	seed := uint32(3)
	for round := range 100 {
		p := pictureOf(16, 16, make([]float32, 256)...)
		for i := range p.Lights {
			seed = seed*1664525 + 1013904223
			p.Lights[i] = []float32{0, num(minusZero), 1, -1}[seed>>30]
		}
		for _, share := range []float32{0.3, 0.4, 0.5, 0.6, 0.7} {
			wantSum(t, fmt.Sprintf("QuantileOf in round %d at %v", round, share), quantile(p, share), true)(impl.QuantileOf(p, share))
		}
	}
}

func TestQuantileOfFails(t *testing.T) {
	for _, share := range append(notFinite(), after(1), 2, -1, num(0x80000001), num(greatest)) {
		wantSum(t, fmt.Sprintf("QuantileOf at %v", share), 0, false)(impl.QuantileOf(pictureOf(2, 1, 1, 2), share))
		wantSum(t, fmt.Sprintf("QuantileOf one light at %v", share), 0, false)(impl.QuantileOf(pictureOf(1, 1, 1), share))
	}
	for what, bad := range badPictures() {
		wantSum(t, "QuantileOf "+what, 0, false)(impl.QuantileOf(bad, 0.5))
	}
}

func evened(p impl.Picture) impl.Picture {
	return changed(p, func(_ int, light float32) float32 {
		below, equal := 0, 0
		for _, other := range p.Lights {
			if other < light {
				below++
			}
			if other == light {
				equal++
			}
		}
		return by(plus(float32(below), times(0.5, float32(equal))), float32(len(p.Lights)))
	})
}

func TestEvenTone(t *testing.T) {
	zero, max := num(minusZero), num(greatest)
	for _, c := range [][2][]float32{
		{{1, 2, 2, 5}, {0.125, 0.5, 0.5, 0.875}},
		{{5, 2, 1, 2}, {0.875, 0.5, 0.125, 0.5}},
		{{7}, {0.5}},
		{{zero}, {0.5}},
		{{0, zero}, {0.5, 0.5}},
		{{zero, num(tiniest), 0, num(0x80000001)}, {0.5, 0.875, 0.5, 0.125}},
		{{3, 3, 3}, {0.5, 0.5, 0.5}},
		{{max, -max}, {0.75, 0.25}},
		{{1, 2, 3}, {by(0.5, 3), by(1.5, 3), by(2.5, 3)}},
		{{2, 2, 1}, {by(2, 3), by(2, 3), by(0.5, 3)}},
	} {
		n := int64(len(c[0]))
		wantPicture(t, fmt.Sprintf("EvenTone of the row %v", c[0]), pictureOf(n, 1, c[1]...))(impl.EvenTone(pictureOf(n, 1, c[0]...)))
		wantPicture(t, fmt.Sprintf("EvenTone of the column %v", c[0]), pictureOf(1, n, c[1]...))(impl.EvenTone(pictureOf(1, n, c[0]...)))
	}
	for i, p := range tonePictures() {
		wantPicture(t, fmt.Sprintf("EvenTone %d", i), evened(p))(impl.EvenTone(p))
		rough := changed(p, func(_ int, light float32) float32 { return float32(int(light*3) % 5) })
		wantPicture(t, fmt.Sprintf("EvenTone %d with equal lights", i), evened(rough))(impl.EvenTone(rough))
	}
	for what, bad := range badPictures() {
		wantNoPicture(t, "EvenTone of "+what)(impl.EvenTone(bad))
	}
}
