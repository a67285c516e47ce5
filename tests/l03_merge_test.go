package tests

import (
	"fmt"
	"math"
	"slices"
	"testing"

	"loop.example/g01308/impl"
)

func hat(x float32) float32 {
	if x <= 0.5 {
		return times(2, x)
	}
	return times(2, less(1, x))
}

// merged is the light of a pixel, each operation of which is rounded.
func merged(b impl.Bracket, pixel int) float32 {
	top, bottom := float32(0), float32(0)
	for k, shot := range b.Shots {
		level := shot.Lights[pixel]
		top = plus(top, times(hat(level), by(level, b.Times[k])))
		bottom = plus(bottom, hat(level))
	}
	last := len(b.Shots) - 1
	switch {
	case bottom > 0:
		return by(top, bottom)
	case b.Shots[0].Lights[pixel] >= 0.5:
		return by(b.Shots[0].Lights[pixel], b.Times[0])
	}
	return by(b.Shots[last].Lights[pixel], b.Times[last])
}

// lightsIn are those of the usable readings of a pixel, in ascending order.
func lightsIn(b impl.Bracket, pixel int) []float32 {
	var list []float32
	for k, shot := range b.Shots {
		if level := shot.Lights[pixel]; level > 0 && level < 1 {
			list = append(list, by(level, b.Times[k]))
		}
	}
	slices.Sort(list)
	return list
}

func median(b impl.Bracket, pixel int) float32 {
	if list := lightsIn(b, pixel); len(list) > 0 {
		return list[(len(list)-1)/2]
	}
	return merged(b, pixel)
}

func ofPixels(b impl.Bracket, light func(impl.Bracket, int) float32) impl.Picture {
	p := pictureOf(b.Shots[0].Wide, b.Shots[0].High, b.Shots[0].Lights...)
	for i := range p.Lights {
		p.Lights[i] = light(b, i)
	}
	return p
}

// wantMerged tests the bracket with all numbers of workers, too.
func wantMerged(t *testing.T, what string, b impl.Bracket, want impl.Picture) {
	t.Helper()
	wantPicture(t, "MergeBracket of "+what, want)(impl.MergeBracket(b))
	for workers := int64(1); workers <= 8; workers++ {
		wantPicture(t, fmt.Sprintf("MergeShared with %d of %s", workers, what), want)(impl.MergeShared(b, workers))
	}
}

func wantNotMerged(t *testing.T, what string, b impl.Bracket) {
	t.Helper()
	wantNoPicture(t, "MergeBracket of "+what)(impl.MergeBracket(b))
	for workers := int64(1); workers <= 8; workers++ {
		wantNoPicture(t, fmt.Sprintf("MergeShared with %d of %s", workers, what))(impl.MergeShared(b, workers))
	}
}

func TestMergeOfOnePixel(t *testing.T) {
	zero, tiny := num(minusZero), num(tiniest)
	for _, c := range []struct {
		what          string
		times, levels []float32
		want          float32
	}{
		{"the example", []float32{1, 2}, []float32{0.25, 0.5}, 0.25},
		{"one usable reading", []float32{4}, []float32{0.5}, 0.125},
		{"unlike lights", []float32{1, 2}, []float32{0.5, 0.5}, 0.375},
		{"another weight", []float32{1, 2}, []float32{0.5, 0.75}, by(plus(0.5, times(0.5, 0.375)), 1.5)},
		{"a reading of 1", []float32{1, 2}, []float32{0.25, 1}, 0.25},
		{"a reading of 0", []float32{1, 2}, []float32{0, 0.5}, 0.25},
		{"a reading of -0", []float32{1, 2}, []float32{zero, 0.5}, 0.25},
		// No hat is greater than 0.
		{"one reading of 1", []float32{4}, []float32{1}, 0.25},
		{"one reading of 0", []float32{4}, []float32{0}, 0},
		{"one reading of -0", []float32{4}, []float32{zero}, zero},
		{"readings of 1", []float32{0.5, 1, 2}, []float32{1, 1, 1}, 2},
		{"a first reading of 0", []float32{0.5, 1, 2}, []float32{0, 1, 1}, 0.5},
		{"a first reading of 0 and a last one of 0", []float32{0.5, 1, 2}, []float32{0, 1, 0}, 0},
		{"a first reading of 1 and others of 0", []float32{0.5, 1, 2}, []float32{1, 0, 0}, 2},
		{"a last reading of -0", []float32{0.5, 1}, []float32{0, zero}, zero},
		{"a first reading of -0", []float32{0.5, 1}, []float32{zero, 0}, 0},
		// The light of a reading without a weight does not matter, if it is finite.
		{"the least usable reading", []float32{1, 2}, []float32{1, tiny}, 0},
		{"the least usable reading alone", []float32{1}, []float32{tiny}, 0},
		{"the greatest usable reading", []float32{1}, []float32{before(1)}, before(1)},
		{"a first reading of 1 in the least time, not used", []float32{0x1p-127, 1}, []float32{1, 0.5}, 0.5},
	} {
		wantMerged(t, c.what, bracketOfPixel(c.times, c.levels...), pictureOf(1, 1, c.want))
	}
}

func TestMergeRoundsEachOperation(t *testing.T) {
	for i, b := range exampleBrackets() {
		wantMerged(t, fmt.Sprintf("the example %d", i), b, ofPixels(b, merged))
		wantPicture(t, fmt.Sprintf("MedianBracket of the example %d", i), ofPixels(b, median))(impl.MedianBracket(b))
	}
	// Times that are no powers of two round all lights.
	for count := 1; count <= 8; count++ {
		b := exampleBracket(count, 13, 11)
		for k := range b.Times {
			b.Times[k] = by(float32(3*k+1), 7)
		}
		what := fmt.Sprintf("%d shots in odd times", count)
		wantMerged(t, what, b, ofPixels(b, merged))
		wantPicture(t, "MedianBracket of "+what, ofPixels(b, median))(impl.MedianBracket(b))
	}
}

func TestMergeFails(t *testing.T) {
	for what, bad := range badBrackets() {
		wantNotMerged(t, what, bad)
		wantNoPicture(t, "MedianBracket of "+what)(impl.MedianBracket(bad))
	}
	b := bracketOfPixel([]float32{1}, 0.5)
	for _, workers := range []int64{0, -1, 9, math.MinInt64, math.MaxInt64} {
		wantNoPicture(t, fmt.Sprintf("MergeShared with %d", workers))(impl.MergeShared(b, workers))
	}
	tiny := num(tiniest)
	for what, b := range map[string]impl.Bracket{
		"an infinite light":                     bracketOfPixel([]float32{tiny}, 0.5),
		"an infinite light with a finite one":   bracketOfPixel([]float32{tiny, 1}, 0.5, 0.5),
		"an infinite light of the first shot":   bracketOfPixel([]float32{tiny, 1}, 1, 1),
		"an infinite light of the last shot":    bracketOfPixel([]float32{tiny, 2 * tiny}, 0, 1),
		"an infinite light without a weight":    bracketOfPixel([]float32{tiny, 1}, 1, 0.5),
		"an infinite light in the last pixel":   bracketOf([]float32{tiny}, pictureOf(2, 1, tiny, 0.5)),
		"an infinite light in the first pixel":  bracketOf([]float32{tiny}, pictureOf(2, 1, 0.5, tiny)),
		"an infinite light in the middle pixel": bracketOf([]float32{tiny}, pictureOf(3, 1, tiny, 0.5, 0)),
	} {
		wantNotMerged(t, what, b)
	}
}

func TestMedianOfOnePixel(t *testing.T) {
	tiny := num(tiniest)
	for _, c := range []struct {
		what          string
		times, levels []float32
		want          float32
	}{
		{"one", []float32{2}, []float32{0.5}, 0.25},
		{"two", []float32{1, 2}, []float32{0.75, 0.5}, 0.25},
		{"two that rise", []float32{0.5, 1}, []float32{0.125, 0.75}, 0.25},
		{"three", []float32{1, 2, 4}, []float32{0.75, 0.25, 0.8}, by(0.8, 4)},
		{"four", []float32{1, 2, 4, 8}, []float32{0.5, 0.5, 0.5, 0.5}, 0.125},
		{"equal ones", []float32{0.5, 1, 2}, []float32{0.125, 0.25, 0.5}, 0.25},
		{"two equal ones and a greater one", []float32{0.5, 1, 2}, []float32{0.125, 0.25, 0.75}, 0.25},
		{"eight", []float32{1, 2, 3, 4, 5, 6, 7, 8}, repeated(float32(0.5), 8), by(0.5, 5)},
		{"seven, and a 0", []float32{1, 2, 3, 4, 5, 6, 7, 8}, []float32{0, 0.5, 0.5, 0.5, 0.5, 0.5, 0.5, 0.5}, by(0.5, 5)},
		{"seven, and a 1", []float32{1, 2, 3, 4, 5, 6, 7, 8}, []float32{0.5, 0.5, 0.5, 0.5, 0.5, 0.5, 0.5, 1}, by(0.5, 4)},
		{"one beside 0 and 1", []float32{1, 2, 4}, []float32{0, 0.75, 1}, 0.375},
		{"the least and the greatest usable one", []float32{1, 2}, []float32{before(1), tiny}, 0},
		{"none, and a first reading of 1", []float32{0.5, 1}, []float32{1, 1}, 2},
		{"none, and a first reading of 0", []float32{0.5, 1}, []float32{0, 1}, 1},
		{"none, and a last reading of -0", []float32{0.5, 1}, []float32{0, num(minusZero)}, num(minusZero)},
		// The others are infinite, but not in the middle.
		{"a finite one of two", []float32{tiny, 1}, []float32{0.5, 0.5}, 0.5},
		{"one, beside an infinite light that is not usable", []float32{tiny, 1}, []float32{1, 0.5}, 0.5},
	} {
		wantPicture(t, "MedianBracket of "+c.what, pictureOf(1, 1, c.want))(impl.MedianBracket(bracketOfPixel(c.times, c.levels...)))
	}
	for what, b := range map[string]impl.Bracket{
		"an infinite light":                   bracketOfPixel([]float32{tiny}, 0.5),
		"infinite lights":                     bracketOfPixel([]float32{tiny, 2 * tiny, 1}, 0.5, 0.5, 0.5),
		"none, and an infinite light":         bracketOfPixel([]float32{tiny, 1}, 1, 1),
		"an infinite light in the last pixel": bracketOf([]float32{tiny}, pictureOf(2, 1, tiny, 0.5)),
	} {
		wantNoPicture(t, "MedianBracket of "+what)(impl.MedianBracket(b))
	}
}

func TestMergeOfAPicture(t *testing.T) {
	p := steps(16, 16, 0.01, 0.37)
	for _, stops := range []float32{0.5, 1, 1.7, 2} {
		list, _ := impl.PlanTimes(0x1p-8, stops, 8)
		b, ok := impl.ShootBracket(p, list, 1)
		wantBool(t, "ShootBracket succeeds", ok, true)
		whole, _ := impl.MergeBracket(b)
		middle, _ := impl.MedianBracket(b)
		for i, light := range p.Lights {
			for what, got := range map[string]float32{"MergeBracket": whole.Lights[i], "MedianBracket": middle.Lights[i]} {
				if miss := math.Abs(float64(got)/float64(light) - 1); miss > 1e-6 {
					t.Errorf("%s of the light %v: got %v", what, light, got)
				}
			}
		}
	}
}

func TestMergeOfNoisyAndLevelShots(t *testing.T) {
	p := steps(16, 8, 0.5, 0.25)
	list, _ := impl.PlanTimes(0x1p-6, 1, 6)
	b, _ := impl.ShootBracket(p, list, 1)
	for k := range b.Shots {
		shot, _, _ := impl.NoisyPicture(b.Shots[k], 0.002, int64(k))
		b.Shots[k], _ = impl.LevelPicture(shot, 4095)
	}
	got, ok := impl.MergeBracket(b)
	wantBool(t, "MergeBracket succeeds", ok, true)
	for i, light := range p.Lights {
		if miss := math.Abs(float64(got.Lights[i])/float64(light) - 1); miss > 0.05 {
			t.Errorf("MergeBracket of the noisy light %v: got %v", light, got.Lights[i])
		}
	}
}

// TestMergeSharedAgain runs often, so that workers take pixels in many orders.
func TestMergeSharedAgain(t *testing.T) {
	small, large := exampleBracket(8, 2, 1), exampleBracket(8, 16, 16)
	for round := range 200 {
		for _, b := range []impl.Bracket{small, large} {
			want, _ := impl.MergeBracket(b)
			workers := int64(round%8 + 1)
			wantPicture(t, fmt.Sprintf("MergeShared with %d", workers), want)(impl.MergeShared(b, workers))
		}
	}
}

func TestGhostsOfOnePixel(t *testing.T) {
	tiny, max := num(tiniest), num(greatest)
	for _, c := range []struct {
		what          string
		times, levels []float32
		limit         float32
		want          bool
	}{
		{"one reading", []float32{1}, []float32{0.5}, 1, false},
		{"equal lights", []float32{1, 2}, []float32{0.25, 0.5}, 1, false},
		{"a greater light than 1 times", []float32{1, 2}, []float32{after(0.25), 0.5}, 1, true},
		{"a light at the limit above", []float32{1, 2}, []float32{0.75, 0.5}, 3, false},
		{"a light above the limit", []float32{1, 2}, []float32{0.75, 0.5}, before(3), true},
		{"a light just above the limit", []float32{1, 2}, []float32{after(0.75), 0.5}, 3, true},
		{"a light at the limit below", []float32{1, 2, 4}, []float32{0.75, 0.75, 0.75}, 2, false},
		{"a light below the limit", []float32{1, 2, 4}, []float32{0.375, 0.75, before(0.75)}, 2, true},
		{"a light just above the limit below", []float32{1, 2, 4}, []float32{0.375, 0.75, after(0.75)}, 2, false},
		{"a light below a median that is the greatest one", []float32{1, 2, 4}, []float32{0.25, 0.5, 0.25}, 2, true},
		{"a light above a median that is the least one", []float32{1, 2, 4}, []float32{0.75, 0.5, before(1)}, 2, true},
		{"the same with a greater limit", []float32{1, 2, 4}, []float32{0.75, 0.5, before(1)}, 4, false},
		{"no usable reading", []float32{1, 2}, []float32{0, 1}, 1, false},
		{"one usable reading beside others", []float32{1, 2, 4}, []float32{1, 0.5, 0}, 1, false},
		{"a product that is infinite", []float32{0x1p-126, 1}, []float32{0.5, 0.5}, max, false},
		{"an infinite light", []float32{tiny, 1}, []float32{0.5, 0.5}, 4, true},
		{"only infinite lights", []float32{tiny, 2 * tiny}, []float32{0.5, 0.5}, 1, false},
		{"a median that is infinite", []float32{tiny, 2 * tiny, 1}, []float32{0.5, 0.5, 0.5}, 8, true},
		{"lights of 0", []float32{4, 8}, []float32{tiny, tiny}, 1, false},
		{"a median of 0", []float32{1, 8}, []float32{tiny, tiny}, max, true},
	} {
		want := []int64{}
		if c.want {
			want = append(want, 0)
		}
		wantList(t, "GhostsIn: "+c.what, want)(impl.GhostsIn(bracketOfPixel(c.times, c.levels...), c.limit))
	}
}

func TestGhostsIn(t *testing.T) {
	b := bracketOf([]float32{1, 2, 4}, pictureOf(4, 1, 0.1, 0.2, 0.2, 0.9), pictureOf(4, 1, 0.2, 0.4, 0.4, 0.2), pictureOf(4, 1, 0.4, 0.2, 0.8, 0.4))
	wantList(t, "GhostsIn", []int64{1, 3})(impl.GhostsIn(b, 2))
	for i, b := range exampleBrackets() {
		for _, limit := range []float32{1, after(1), 1.5, 2, 3, 10, 1000, num(greatest)} {
			want := []int64{}
			for pixel := range b.Shots[0].Lights {
				list, m := lightsIn(b, pixel), median(b, pixel)
				if len(list) > 0 && (list[len(list)-1] > times(limit, m) || m > times(limit, list[0])) {
					want = append(want, int64(pixel))
				}
			}
			wantList(t, fmt.Sprintf("GhostsIn the example %d with %v", i, limit), want)(impl.GhostsIn(b, limit))
		}
	}
}

func TestGhostsInFails(t *testing.T) {
	b := bracketOfPixel([]float32{1, 2}, 0.25, 0.75)
	for _, limit := range append(notFinite(), 0, -1, before(1), num(tiniest), num(minusZero), -num(greatest)) {
		wantNoList[int64](t, fmt.Sprintf("GhostsIn with %v", limit))(impl.GhostsIn(b, limit))
	}
	for what, bad := range badBrackets() {
		wantNoList[int64](t, "GhostsIn of "+what)(impl.GhostsIn(bad, 2))
	}
}

func TestDropShot(t *testing.T) {
	for count := 2; count <= 8; count++ {
		b := exampleBracket(count, 3, 2)
		for i := range count {
			want := bracketOf(slices.Delete(slices.Clone(b.Times), i, i+1), slices.Delete(slices.Clone(b.Shots), i, i+1)...)
			got, ok := impl.DropShot(b, int64(i))
			what := fmt.Sprintf("DropShot %d of %d", i, count)
			wantBracket(t, what, want)(got, ok)
			wantBool(t, what+" is valid", impl.ValidBracket(got), true)
		}
		for _, i := range []int64{-1, int64(count), math.MinInt64, math.MaxInt64, 1 << 32} {
			wantNoBracket(t, fmt.Sprintf("DropShot %d of %d", i, count))(impl.DropShot(b, i))
		}
	}
	wantNoBracket(t, "DropShot of one shot")(impl.DropShot(bracketOfPixel([]float32{1}, 0.5), 0))
	for what, bad := range badBrackets() {
		wantNoBracket(t, "DropShot 0 of "+what)(impl.DropShot(bad, 0))
		wantNoBracket(t, "DropShot 1 of "+what)(impl.DropShot(bad, 1))
	}
}
