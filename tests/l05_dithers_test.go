package tests

import (
	"fmt"
	"math"
	"testing"

	"loop.example/g01308/impl"
)

func thresholdOrder(size int64) []int64 {
	if size == 2 {
		return []int64{0, 2, 3, 1}
	}
	return []int64{0, 8, 2, 10, 12, 4, 14, 6, 3, 11, 1, 9, 15, 7, 13, 5}
}

func thresholdAt(size, x, y int64) float32 {
	n := thresholdOrder(size)[y%size*size+x%size]
	return by(plus(float32(n), 0.5), float32(size*size))
}

func badSizes() []int64 {
	return []int64{math.MinInt64, -4, -2, -1, 0, 1, 3, 5, 8, 16, math.MaxInt64}
}

func TestThresholdAt(t *testing.T) {
	for i, want := range []float32{0.125, 0.625, 0.875, 0.375} {
		wantSum(t, fmt.Sprintf("ThresholdAt 2, number %d", i), want, true)(impl.ThresholdAt(2, int64(i%2), int64(i/2)))
	}
	wantSum(t, "ThresholdAt 4 at 5, 1", 0.28125, true)(impl.ThresholdAt(4, 5, 1))
	for _, size := range []int64{2, 4} {
		for _, x := range []int64{0, 1, 2, 3, 4, 5, 6, 7, 9, 15, 16, 999997, 999998, 999999, 1000000} {
			for _, y := range []int64{0, 1, 2, 3, 4, 5, 7, 10, 11, 999997, 999998, 999999, 1000000} {
				wantSum(t, fmt.Sprintf("ThresholdAt %d at %d, %d", size, x, y), thresholdAt(size, x, y), true)(impl.ThresholdAt(size, x, y))
			}
		}
		for _, bad := range []int64{math.MinInt64, -4, -1, 1000001, 1000004, math.MaxInt64} {
			wantSum(t, fmt.Sprintf("ThresholdAt %d at %d, 0", size, bad), 0, false)(impl.ThresholdAt(size, bad, 0))
			wantSum(t, fmt.Sprintf("ThresholdAt %d at 0, %d", size, bad), 0, false)(impl.ThresholdAt(size, 0, bad))
		}
	}
	for _, size := range badSizes() {
		wantSum(t, fmt.Sprintf("ThresholdAt %d", size), 0, false)(impl.ThresholdAt(size, 0, 0))
	}
}

// The thresholds of a square are all of a row of equal distances, each once.
func TestThresholdsAreEven(t *testing.T) {
	for _, size := range []int64{2, 4} {
		seen := map[float32]bool{}
		for i := range size * size {
			x, _ := impl.ThresholdAt(size, i%size, i/size)
			seen[x] = true
		}
		for i := range size * size {
			if x := (float32(i) + 0.5) / float32(size*size); !seen[x] {
				t.Errorf("ThresholdAt %d: none is %v", size, x)
			}
		}
	}
}

func ordered(p impl.Picture, steps, size int64) impl.Picture {
	return changed(p, func(i int, light float32) float32 {
		return shadeBy(light, thresholdAt(size, int64(i)%p.Wide, int64(i)/p.Wide), steps)
	})
}

func TestOrderedDither(t *testing.T) {
	zero := num(minusZero)
	for _, c := range []struct {
		p           impl.Picture
		steps, size int64
		want        []float32
	}{
		{pictureOf(2, 1, 0.25, 0.75), 1, 2, []float32{0, 1}},
		{pictureOf(2, 2, 0.5, 0.5, 0.5, 0.5), 1, 2, []float32{0, 1, 1, 0}},
		// A light passes a threshold where both together are 1, and not just below.
		{pictureOf(2, 2, 0.875, 0.375, 0.125, 0.625), 1, 2, []float32{1, 1, 1, 1}},
		{pictureOf(2, 2, 0.87499, 0.37499, 0.12499, 0.62499), 1, 2, []float32{0, 0, 0, 0}},
		{pictureOf(2, 2, 1, 1, 1, 1), 1, 4, []float32{1, 1, 1, 1}},
		{pictureOf(2, 2, 1, 1, 1, 1), 255, 4, []float32{1, 1, 1, 1}},
		{pictureOf(2, 2, 0, zero, 0, zero), 255, 2, []float32{0, 0, 0, 0}},
		{pictureOf(2, 1, 0.5, 0.5), 2, 4, []float32{0.5, 0.5}},
		{pictureOf(3, 1, 0.4, 0.4, 0.4), 4, 2, []float32{0.25, 0.5, 0.25}},
		{pictureOf(1, 4, 0.1, 0.1, 0.9, 0.9), 1, 4, []float32{0, 0, 1, 1}},
	} {
		wantPicture(t, fmt.Sprintf("OrderedDither %v in %d by %d", c.p, c.steps, c.size), pictureOf(c.p.Wide, c.p.High, c.want...))(impl.OrderedDither(c.p, c.steps, c.size))
	}
	for i, p := range shots() {
		for _, steps := range []int64{1, 2, 3, 7, 16, 100, 254, 255} {
			for _, size := range []int64{2, 4} {
				wantPicture(t, fmt.Sprintf("OrderedDither %d in %d by %d", i, steps, size), ordered(p, steps, size))(impl.OrderedDither(p, steps, size))
			}
		}
	}
	for what, bad := range noShots() {
		wantNoPicture(t, "OrderedDither of "+what)(impl.OrderedDither(bad, 1, 2))
		wantNoPicture(t, "OrderedDither of "+what)(impl.OrderedDither(bad, 255, 4))
	}
	p := pictureOf(2, 1, 0.25, 0.75)
	for _, steps := range badSteps() {
		wantNoPicture(t, fmt.Sprintf("OrderedDither in %d", steps))(impl.OrderedDither(p, steps, 2))
	}
	for _, size := range badSizes() {
		wantNoPicture(t, fmt.Sprintf("OrderedDither by %d", size))(impl.OrderedDither(p, 1, size))
	}
}

func drawnDither(p impl.Picture, steps, seed int64) (impl.Picture, int64) {
	dithered := changed(p, func(_ int, light float32) float32 {
		seed = nextSeed(seed)
		return shadeBy(light, by(float32(seed/65536), 32768), steps)
	})
	return dithered, seed
}

func wantDrawn(t *testing.T, what string, want impl.Picture, wantSeed int64) func(impl.Picture, int64, bool) {
	return func(got impl.Picture, seed int64, ok bool) {
		t.Helper()
		if !ok || !samePictures(got, want) || seed != wantSeed {
			t.Errorf("%s: got %v, %d, %v, want %v, %d", what, got, seed, ok, want, wantSeed)
		}
	}
}

func wantNoDrawn(t *testing.T, what string) func(impl.Picture, int64, bool) {
	return func(got impl.Picture, seed int64, ok bool) {
		t.Helper()
		wantNoPicture(t, what)(got, ok)
		if seed != 0 {
			t.Errorf("%s: got the seed %d", what, seed)
		}
	}
}

func TestNoiseDither(t *testing.T) {
	// The seed 0 becomes 12345, whose drawn number is 0; then 1406932606, with 21468; and then 654583775, with 9988.
	for _, c := range []struct {
		lights, want []float32
	}{
		{[]float32{0, 1}, []float32{0, 1}},
		{[]float32{1, 1, 1}, []float32{1, 1, 1}},
		{[]float32{0, 0, num(minusZero)}, []float32{0, 0, 0}},
		{[]float32{0.99, 0.99, 0.99}, []float32{0, 1, 1}},
		{[]float32{0.99, 0.344, 0.69}, []float32{0, 0, 0}},
		{[]float32{1, 0.345, 0.696}, []float32{1, 1, 1}},
	} {
		want, seed := pictureOf(int64(len(c.want)), 1, c.want...), int64(1406932606)
		if len(c.want) == 3 {
			seed = 654583775
		}
		wantDrawn(t, fmt.Sprintf("NoiseDither %v", c.lights), want, seed)(impl.NoiseDither(pictureOf(int64(len(c.lights)), 1, c.lights...), 1, 0))
	}
	for i, p := range shots() {
		for k, steps := range []int64{1, 2, 3, 16, 254, 255} {
			for _, seed := range []int64{0, 2147483647, 1, int64(i)*7919 + int64(k)} {
				want, then := drawnDither(p, steps, seed)
				wantDrawn(t, fmt.Sprintf("NoiseDither %d in %d from %d", i, steps, seed), want, then)(impl.NoiseDither(p, steps, seed))
			}
		}
	}
	for what, bad := range noShots() {
		wantNoDrawn(t, "NoiseDither of "+what)(impl.NoiseDither(bad, 1, 2))
	}
	p := pictureOf(2, 1, 0.25, 0.75)
	for _, steps := range badSteps() {
		wantNoDrawn(t, fmt.Sprintf("NoiseDither in %d", steps))(impl.NoiseDither(p, steps, 2))
	}
	for _, seed := range badSeeds() {
		wantNoDrawn(t, fmt.Sprintf("NoiseDither from %d", seed))(impl.NoiseDither(p, 1, seed))
	}
}

// The seed that is returned goes on where the first picture ends.
func TestNoiseDitherGoesOn(t *testing.T) {
	lights := someLights(20)
	whole, last, ok := impl.NoiseDither(pictureOf(1, 10, lights[5:15]...), 3, 99)
	first, seed, _ := impl.NoiseDither(pictureOf(1, 4, lights[5:9]...), 3, 99)
	second, end, too := impl.NoiseDither(pictureOf(1, 6, lights[9:15]...), 3, seed)
	if !ok || !too || end != last || told(first.Lights)+told(second.Lights) != told(whole.Lights) {
		t.Errorf("NoiseDither in two parts: got %v and %v, want %v", first, second, whole)
	}
}

// diffused keeps the values of all pixels by their places, and adds errors where there is one.
func diffused(p impl.Picture, steps int64, turning bool) (impl.Picture, float32) {
	type place [2]int64
	values := map[place]float32{}
	for i, light := range p.Lights {
		values[place{int64(i) % p.Wide, int64(i) / p.Wide}] = light
	}
	dithered, lost := pictureOf(p.Wide, p.High, p.Lights...), float32(0)
	for y := range p.High {
		for k := range p.Wide {
			x, next := k, int64(1)
			if turning && y%2 != 0 {
				x, next = p.Wide-1-k, -1
			}
			w := values[place{x, y}]
			v := shadeBy(w, 0.5, steps)
			dithered.Lights[y*p.Wide+x] = v
			for i, to := range []place{{x + next, y}, {x - next, y + 1}, {x, y + 1}, {x + next, y + 1}} {
				part := times(less(w, v), []float32{7. / 16, 3. / 16, 5. / 16, 1. / 16}[i])
				if value, ok := values[to]; ok {
					values[to] = plus(value, part)
				} else {
					lost = plus(lost, part)
				}
			}
		}
	}
	return dithered, lost
}

func wantDiffused(t *testing.T, what string, want impl.Picture, wantLost float32) func(impl.Picture, float32, bool) {
	return func(got impl.Picture, lost float32, ok bool) {
		t.Helper()
		if !ok || !samePictures(got, want) || !same(lost, wantLost) {
			t.Errorf("%s: got %v, %v, %v, want %v, %v", what, got, lost, ok, want, wantLost)
		}
	}
}

func wantNoDiffused(t *testing.T, what string) func(impl.Picture, float32, bool) {
	return func(got impl.Picture, lost float32, ok bool) {
		t.Helper()
		wantNoPicture(t, what)(got, ok)
		wantNumber(t, what+": what is lost", lost, 0)
	}
}

func TestDiffuseDither(t *testing.T) {
	zero, quarter := num(minusZero), float32(0.25)
	for _, c := range []struct {
		p       impl.Picture
		steps   int64
		turning bool
		want    []float32
		lost    float32
	}{
		{pictureOf(1, 1, quarter), 1, false, []float32{0}, quarter},
		{pictureOf(1, 1, 0.5), 1, true, []float32{1}, -0.5},
		{pictureOf(1, 1, 0.484375), 1, true, []float32{0}, 0.484375},
		// The sum with 0.5 is rounded to 1, and what is left of this light is rounded, too.
		{pictureOf(1, 1, before(0.5)), 1, true, []float32{1}, -0.5},
		{pictureOf(1, 1, 1), 255, false, []float32{1}, 0},
		{pictureOf(1, 1, zero), 255, false, []float32{0}, 0},
		// The next pixel gets 7/16, and all others are lost.
		{pictureOf(2, 1, 0.375, 0), 1, false, []float32{0, 0}, 0.375},
		{pictureOf(2, 1, 0.25, 0.390625), 1, false, []float32{0, 1}, 0.25*0.5625 - 0.5},
		{pictureOf(2, 1, 0.25, 0.375), 1, false, []float32{0, 0}, 0.625},
		// In a column, only the pixel below gets anything.
		{pictureOf(1, 2, 0.25, 0.421875), 1, false, []float32{0, 1}, 0.25*0.6875 - 0.5},
		{pictureOf(1, 2, 0.25, 0.40625), 1, true, []float32{0, 0}, 0.65625},
		// The last row goes the other way only if it is turning, and is odd.
		{pictureOf(2, 2, quarter, quarter, quarter, quarter), 1, false, []float32{0, 0, 0, 1}, 0},
		{pictureOf(2, 2, quarter, quarter, quarter, quarter), 1, true, []float32{0, 0, 1, 0}, 0},
		{pictureOf(2, 3, 0, 0, 0, 0, 0.25, 0.390625), 1, true, []float32{0, 0, 0, 0, 0, 1}, 0.25*0.5625 - 0.5},
		{pictureOf(2, 2, 0, 0, 0.390625, 0.25), 1, true, []float32{0, 0, 1, 0}, 0.25*0.5625 - 0.5},
		// What is settled with 1 gives less to others, whose values can be less than 0.
		{pictureOf(2, 1, 0.5, 0), 1, false, []float32{1, 0}, -0.5},
		// Values can be more than 1, too.
		{pictureOf(2, 1, 0.25, 1), 1, false, []float32{0, 1}, 0.25},
	} {
		what := fmt.Sprintf("DiffuseDither %v in %d, turning %v", c.p, c.steps, c.turning)
		wantDiffused(t, what, pictureOf(c.p.Wide, c.p.High, c.want...), c.lost)(impl.DiffuseDither(c.p, c.steps, c.turning))
	}
	for i, p := range shots() {
		for _, steps := range []int64{1, 2, 3, 7, 16, 100, 254, 255} {
			for _, turning := range []bool{false, true} {
				want, lost := diffused(p, steps, turning)
				wantDiffused(t, fmt.Sprintf("DiffuseDither %d in %d, turning %v", i, steps, turning), want, lost)(impl.DiffuseDither(p, steps, turning))
			}
		}
	}
	for what, bad := range noShots() {
		wantNoDiffused(t, "DiffuseDither of "+what)(impl.DiffuseDither(bad, 1, false))
		wantNoDiffused(t, "DiffuseDither of "+what)(impl.DiffuseDither(bad, 255, true))
	}
	for _, steps := range badSteps() {
		wantNoDiffused(t, fmt.Sprintf("DiffuseDither in %d", steps))(impl.DiffuseDither(pictureOf(1, 1, 1), steps, false))
	}
}

// All four errors that come to the middle of the last row are as great as possible, so that its value is rounded to a step below 0, or to one too many.
func TestDiffuseDitherHasNoMoreSteps(t *testing.T) {
	for _, c := range []struct {
		steps int64
		bits  [4]uint32
		last  float32
	}{
		{1, [4]uint32{0x3efffffe, 0x3e8fffff, 0x3e8fffff, 0x3e7ffffc}, 1},
		{3, [4]uint32{0x3effffff, 0x3edaaaaa, 0x3edaaaaa, 0x3ed55555}, 1},
		{8, [4]uint32{0x3d7ffffe, 0x3d0fffff, 0x3d0fffff, 0x3cfffffc}, 1},
		{3, [4]uint32{0x3e2aaaaa, 0x3e755555, 0x3e755555, 0x3e800000}, 0},
		{5, [4]uint32{0x3f333333, 0x3f3e6666, 0x3f3e6666, 0x3f400000}, 0},
		{7, [4]uint32{0x3f6db6db, 0x3f75b6db, 0x3f75b6db, 0x3f76db6e}, 0},
	} {
		p := pictureOf(3, 2, num(c.bits[0]), num(c.bits[1]), num(c.bits[2]), num(c.bits[3]), c.last, 0)
		what := fmt.Sprintf("DiffuseDither %v in %d", p, c.steps)
		want, lost := diffused(p, c.steps, false)
		got, _, _ := impl.DiffuseDither(p, c.steps, false)
		wantDiffused(t, what, want, lost)(impl.DiffuseDither(p, c.steps, false))
		wantNumber(t, what+": the last step", got.Lights[4], c.last)
	}
}

func sumOfLights(p impl.Picture) float64 {
	sum := 0.0
	for _, light := range p.Lights {
		sum += float64(light)
	}
	return sum
}

func TestErrorsThatGoOnKeepTheLight(t *testing.T) {
	for i, p := range shots() {
		for _, steps := range []int64{1, 2, 5, 16, 255} {
			for _, turning := range []bool{false, true} {
				got, lost, ok := impl.DiffuseDither(p, steps, turning)
				if kept := sumOfLights(got) + float64(lost); !ok || math.Abs(kept-sumOfLights(p)) > 1e-4 {
					t.Errorf("DiffuseDither %d in %d, turning %v: the lights are %v with what is lost, and not nearly %v", i, steps, turning, kept, sumOfLights(p))
				}
			}
		}
	}
}

// All dithers have lights that are whole numbers of steps, and none is a step or more away.
func TestDithersHaveSteps(t *testing.T) {
	for i, p := range shots() {
		for _, steps := range []int64{1, 2, 3, 10, 255} {
			drawn, _, _ := impl.NoiseDither(p, steps, int64(i))
			small, _ := impl.OrderedDither(p, steps, 2)
			large, _ := impl.OrderedDither(p, steps, 4)
			straight, _, _ := impl.DiffuseDither(p, steps, false)
			turning, _, _ := impl.DiffuseDither(p, steps, true)
			for k, got := range []impl.Picture{drawn, small, large, straight, turning} {
				if len(got.Lights) != len(p.Lights) {
					t.Errorf("the dither %d of %d fails", k, i)
				}
				for at, light := range got.Lights {
					step := math.Round(float64(light) * float64(steps))
					if light != float32(step)/float32(steps) || step < 0 || step > float64(steps) || math.Signbit(float64(light)) {
						t.Errorf("the dither %d of %d has the light %v, which is no step of %d", k, i, light, steps)
					}
					if far := math.Abs(float64(light-p.Lights[at])) * float64(steps); k < 3 && far > 1.00001 {
						t.Errorf("the dither %d of %d: %v became %v", k, i, p.Lights[at], light)
					}
				}
			}
		}
	}
}
