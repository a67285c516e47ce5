package tests

import (
	"fmt"
	"math"
	"math/big"
	"slices"
	"testing"

	"loop.example/g01308/impl"
)

func TestLimitsOfExposures(t *testing.T) {
	if impl.MaxShots != 8 || impl.MaxBends != 17 || impl.MaxWorkers != 8 {
		t.Error("a limit is not as the document says")
	}
}

func TestValidBracket(t *testing.T) {
	for i, b := range exampleBrackets() {
		wantBool(t, fmt.Sprintf("ValidBracket of the example %d", i), impl.ValidBracket(b), true)
	}
	for what, b := range map[string]impl.Bracket{
		"0 and 1":              bracketOf([]float32{1}, pictureOf(2, 1, 0, 1)),
		"-0":                   bracketOf([]float32{1}, pictureOf(1, 1, num(minusZero))),
		"the least level":      bracketOf([]float32{1}, pictureOf(1, 1, num(tiniest))),
		"the least time":       bracketOfPixel([]float32{num(tiniest)}, 1),
		"the greatest time":    bracketOfPixel([]float32{num(greatest)}, 1),
		"times side by side":   bracketOfPixel([]float32{1, after(1)}, 1, 1),
		"all times side by si": bracketOfPixel([]float32{num(1), num(2), num(3)}, 1, 1, 1),
		"shots that shrink":    bracketOfPixel([]float32{1, 2, 3}, 1, 0.5, 0),
	} {
		wantBool(t, "ValidBracket of "+what, impl.ValidBracket(b), true)
	}
	for what, b := range badBrackets() {
		wantBool(t, "ValidBracket of "+what, impl.ValidBracket(b), false)
	}
}

func TestSameBracket(t *testing.T) {
	shot, other := pictureOf(2, 1, 0, 1), pictureOf(2, 1, 0, 0.5)
	b := bracketOf([]float32{1, 2}, shot, other)
	zero, nan := num(minusZero), num(nanBits)
	for _, c := range []struct {
		what string
		a, b impl.Bracket
		want bool
	}{
		{"itself", b, b, true},
		{"equal ones", b, bracketOf([]float32{1, 2}, shot, other), true},
		{"another room", b, impl.Bracket{Shots: []impl.Picture{shot, other}, Times: []float32{1, 2}}, true},
		{"another first time", b, bracketOf([]float32{0.5, 2}, shot, other), false},
		{"another last time", b, bracketOf([]float32{1, 3}, shot, other), false},
		{"another first shot", b, bracketOf([]float32{1, 2}, other, other), false},
		{"another last shot", b, bracketOf([]float32{1, 2}, shot, shot), false},
		{"another order", b, bracketOf([]float32{1, 2}, other, shot), false},
		{"a time more", b, bracketOf([]float32{1, 2, 3}, shot, other), false},
		{"a shot more", b, bracketOf([]float32{1, 2}, shot, other, other), false},
		{"a shot and a time less", b, bracketOf([]float32{1}, shot), false},
		{"other sides", bracketOf([]float32{1}, pictureOf(2, 1, 0, 1)), bracketOf([]float32{1}, pictureOf(1, 2, 0, 1)), false},
		{"levels 0 and -0", bracketOfPixel([]float32{1}, 0), bracketOfPixel([]float32{1}, zero), false},
		{"times 0 and -0", bracketOf([]float32{0}, shot), bracketOf([]float32{zero}, shot), false},
		{"times -0", bracketOf([]float32{zero}, shot), bracketOf([]float32{zero}, shot), true},
		{"not-a-numbers", bracketOfPixel([]float32{nan}, num(0xff800001)), bracketOfPixel([]float32{num(0xffffffff)}, nan), true},
		{"a not-a-number and 1", bracketOf([]float32{nan}, shot), bracketOf([]float32{1}, shot), false},
		{"invalid ones", bracketOf([]float32{5, 5, 5}, pictureOf(-1, 7, 9)), bracketOf([]float32{5, 5, 5}, pictureOf(-1, 7, 9)), true},
		{"other invalid ones", bracketOf([]float32{5, 5, 5}, pictureOf(-1, 7, 9)), bracketOf([]float32{5, 5, 5}, pictureOf(-1, 7, 8)), false},
		{"nil and empty lists", impl.Bracket{}, impl.Bracket{Shots: []impl.Picture{}, Times: []float32{}}, true},
	} {
		wantBool(t, "SameBracket: "+c.what, impl.SameBracket(c.a, c.b), c.want)
		wantBool(t, "SameBracket, exchanged: "+c.what, impl.SameBracket(c.b, c.a), c.want)
	}
}

func TestExpose(t *testing.T) {
	max, zero := num(greatest), num(minusZero)
	for _, c := range []struct {
		light, time, full, want float32
	}{
		{2, 0.25, 1, 0.5},
		{8, 0.25, 1, 1},
		{4, 0.25, 1, 1},
		{1, 1, 3, by(1, 3)},
		{0, 1, 1, 0},
		{zero, 1, 1, 0},
		{-1, 1, 1, 0},
		{num(0x80000001), 0.25, 1, 0},
		{num(tiniest), 1, 1, num(tiniest)},
		{num(tiniest), 0.25, 1, 0},
		{before(1), 1, 1, before(1)},
		{after(1), 1, 1, 1},
		{1, 1, before(1), 1},
		{1, 1, after(1), before(before(1))},
		// The product is infinite before it is divided.
		{max, 2, max, 1},
		{-max, 2, max, 0},
		{max, max, max, 1},
		// The product is 0 before it is divided.
		{num(tiniest), 0.25, num(tiniest), 0},
		{max, num(tiniest), max, num(tiniest)},
	} {
		what := fmt.Sprintf("Expose of %v in the time %v with %v", c.light, c.time, c.full)
		wantPicture(t, what, pictureOf(1, 1, c.want))(impl.Expose(pictureOf(1, 1, c.light), c.time, c.full))
	}
}

// exposed is the level of a light, each operation of which is rounded.
func exposed(light, time, full float32) float32 {
	level := by(times(light, time), full)
	if !(level > 0) {
		return 0
	}
	return float32(math.Min(float64(level), 1))
}

func TestExposeRoundsEachOperation(t *testing.T) {
	numbers := someLights(40)
	p := pictureOf(16, 4, someLights(64)...)
	for i := 2; i < len(numbers); i++ {
		time, full := numbers[i-1], numbers[i]
		want := pictureOf(p.Wide, p.High, p.Lights...)
		for k, light := range p.Lights {
			want.Lights[k] = exposed(light, time, full)
		}
		wantPicture(t, fmt.Sprintf("Expose in %v with %v", time, full), want)(impl.Expose(p, time, full))
	}
}

func TestExposeFails(t *testing.T) {
	p := pictureOf(2, 1, 0.5, 1)
	for _, x := range append(notFinite(), 0, num(minusZero), -1, num(0x80000001)) {
		wantNoPicture(t, fmt.Sprintf("Expose in the time %v", x))(impl.Expose(p, x, 1))
		wantNoPicture(t, fmt.Sprintf("Expose with the full light %v", x))(impl.Expose(p, 1, x))
		wantNoBracket(t, fmt.Sprintf("ShootBracket with the full light %v", x))(impl.ShootBracket(p, []float32{1, 2}, x))
	}
	for what, bad := range badPictures() {
		wantNoPicture(t, "Expose of "+what)(impl.Expose(bad, 1, 1))
		wantNoBracket(t, "ShootBracket of "+what)(impl.ShootBracket(bad, []float32{1, 2}, 1))
	}
	for what, bad := range badTimes() {
		wantNoBracket(t, "ShootBracket with "+what)(impl.ShootBracket(p, bad, 1))
	}
	wantNoBracket(t, "ShootBracket with nil times")(impl.ShootBracket(p, nil, 1))
}

func TestShootBracket(t *testing.T) {
	p := pictureOf(4, 2, 0, -1, 0.1, 0.3, 1, 2, 3, 100)
	for count := 1; count <= 8; count++ {
		for _, full := range []float32{0.5, 1, 3} {
			list := powersOfTwo(count)
			want := bracketOf(list)
			for _, time := range list {
				shot := pictureOf(4, 2, p.Lights...)
				for i, light := range p.Lights {
					shot.Lights[i] = exposed(light, time, full)
				}
				want.Shots = append(want.Shots, shot)
			}
			what := fmt.Sprintf("ShootBracket of %d with %v", count, full)
			got, ok := impl.ShootBracket(p, list, full)
			wantBracket(t, what, want)(got, ok)
			wantBool(t, what+" is valid", impl.ValidBracket(got), true)
		}
	}
	ends := []float32{num(tiniest), num(greatest)}
	wantBracket(t, "ShootBracket with the least and the greatest time", bracketOfPixel(ends, num(tiniest), 1))(impl.ShootBracket(pictureOf(1, 1, 1), ends, 1))
}

// nextSeed has no limit of its own.
func nextSeed(seed int64) int64 {
	n := new(big.Int).Mul(big.NewInt(1103515245), big.NewInt(seed))
	n.Add(n, big.NewInt(12345))
	return n.Mod(n, big.NewInt(2147483648)).Int64()
}

func noisy(p impl.Picture, size float32, seed int64) (impl.Picture, int64) {
	list := pictureOf(p.Wide, p.High, p.Lights...)
	for i, light := range p.Lights {
		seed = nextSeed(seed)
		drawn := by(float32(seed/65536-16384), 16384)
		x := plus(light, times(size, drawn))
		if !(x > 0) {
			x = 0
		}
		list.Lights[i] = float32(math.Min(float64(x), 1))
	}
	return list, seed
}

func TestNoisyPicture(t *testing.T) {
	zero := num(minusZero)
	for _, p := range []impl.Picture{
		pictureOf(1, 1, 0.5), pictureOf(2, 2, 0, 1, zero, 0.5), pictureOf(16, 16, someLights(256)...), pictureOf(16, 16, repeated(float32(0.5), 256)...),
	} {
		for _, size := range []float32{0, zero, num(tiniest), 0x1p-20, 0.1, 0.3, 1, 2.7, 1e9, num(greatest)} {
			for _, seed := range []int64{0, 1, 2, 12345, 65535, 65536, 1 << 30, 123456789, 2147483646, 2147483647} {
				want, next := noisy(p, size, seed)
				got, last, ok := impl.NoisyPicture(p, size, seed)
				what := fmt.Sprintf("NoisyPicture %d by %d with %v and the seed %d", p.Wide, p.High, size, seed)
				wantPicture(t, what, want)(got, ok)
				if last != next {
					t.Errorf("%s: the seed is %d then, want %d", what, last, next)
				}
			}
		}
	}
	_, seed, _ := impl.NoisyPicture(pictureOf(1, 1, 0.5), 1, 0)
	if seed != 12345 {
		t.Errorf("NoisyPicture: the seed behind 0 is %d", seed)
	}
}

func TestNoisyPictureWithoutNoise(t *testing.T) {
	p := pictureOf(3, 1, num(minusZero), 0.3, 1)
	got, _, ok := impl.NoisyPicture(p, 0, 5)
	wantPicture(t, "NoisyPicture without noise", pictureOf(3, 1, 0, 0.3, 1))(got, ok)
}

func TestNoisyPictureFails(t *testing.T) {
	p := pictureOf(2, 1, 0.5, 1)
	want := func(what string, q impl.Picture, size float32, seed int64) {
		t.Helper()
		got, last, ok := impl.NoisyPicture(q, size, seed)
		wantNoPicture(t, "NoisyPicture "+what)(got, ok)
		if last != 0 {
			t.Errorf("NoisyPicture %s: the seed is %d then", what, last)
		}
	}
	for _, size := range append(notFinite(), -1, num(0x80000001)) {
		want(fmt.Sprintf("with %v", size), p, size, 7)
	}
	for _, seed := range []int64{-1, 2147483648, math.MinInt64, math.MaxInt64, 1 << 32} {
		want(fmt.Sprintf("with the seed %d", seed), p, 1, seed)
	}
	for what, bad := range badPictures() {
		want("of "+what, bad, 1, 7)
	}
	for what, bad := range badShots() {
		want("of a picture with "+what, bad, 1, 7)
	}
}

func TestLevelPicture(t *testing.T) {
	zero := num(minusZero)
	for _, c := range []struct {
		steps        int64
		lights, want []float32
	}{
		{1, []float32{0, zero, before(0.5), 0.5, 0.75, 1}, []float32{0, 0, 1, 1, 1, 1}},
		{2, []float32{0.3, 0.6, 1, 0.25, 0.125, 0.75}, []float32{0.5, 0.5, 1, 0.5, 0, 1}},
		{3, []float32{0.1, 0.3, 0.6, 0.9, 0.5, num(tiniest)}, []float32{0, by(1, 3), by(2, 3), 1, by(2, 3), 0}},
		{65535, []float32{1, 0.5, before(1), 0x1p-17, num(tiniest), by(1, 65535)}, []float32{1, by(32768, 65535), 1, 0, 0, by(1, 65535)}},
	} {
		what := fmt.Sprintf("LevelPicture in %d", c.steps)
		wantPicture(t, what, pictureOf(6, 1, c.want...))(impl.LevelPicture(pictureOf(6, 1, c.lights...), c.steps))
	}
	// Just below one half, the sum with one half is rounded to 1; further below, it is not.
	wantPicture(t, "LevelPicture below one half", pictureOf(2, 1, 1, 0))(impl.LevelPicture(pictureOf(2, 1, before(0.5), before(before(before(0.5)))), 1))
}

func TestLevelPictureRoundsEachOperation(t *testing.T) {
	p := pictureOf(16, 16, someLights(256)...)
	for _, steps := range []int64{1, 2, 3, 5, 7, 10, 100, 255, 256, 1023, 4095, 9999, 32767, 65534, 65535} {
		want := pictureOf(16, 16, p.Lights...)
		for i, light := range p.Lights {
			step := math.Floor(float64(plus(times(light, float32(steps)), 0.5)))
			want.Lights[i] = by(float32(step), float32(steps))
		}
		wantPicture(t, fmt.Sprintf("LevelPicture in %d", steps), want)(impl.LevelPicture(p, steps))
	}
}

func TestLevelPictureFails(t *testing.T) {
	for _, steps := range []int64{0, -1, 65536, math.MinInt64, math.MaxInt64} {
		wantNoPicture(t, fmt.Sprintf("LevelPicture in %d", steps))(impl.LevelPicture(pictureOf(1, 1, 0.5), steps))
	}
	for what, bad := range badPictures() {
		wantNoPicture(t, "LevelPicture of "+what)(impl.LevelPicture(bad, 2))
	}
	for what, bad := range badShots() {
		wantNoPicture(t, "LevelPicture of a picture with "+what)(impl.LevelPicture(bad, 2))
	}
}

func TestHatOf(t *testing.T) {
	zero := num(minusZero)
	for _, c := range [][2]float32{
		{0, 0}, {zero, zero}, {num(tiniest), num(2)}, {0.25, 0.5}, {0.5, 1}, {before(0.5), before(1)},
		{after(0.5), times(2, less(1, after(0.5)))}, {0.75, 0.5}, {before(1), times(2, less(1, before(1)))}, {1, 0},
		{after(1), 0}, {2, 0}, {num(greatest), 0}, {num(0x80000001), 0}, {-0.25, 0}, {-num(greatest), 0}, {0.3, times(2, 0.3)}, {0.9, times(2, less(1, 0.9))},
	} {
		wantSum(t, fmt.Sprintf("HatOf %v", c[0]), c[1], true)(impl.HatOf(c[0]))
	}
	for _, x := range notFinite() {
		wantSum(t, fmt.Sprintf("HatOf %v", x), 0, false)(impl.HatOf(x))
	}
}

func TestShotsOfPicturesAreShots(t *testing.T) {
	p := pictureOf(16, 16, someNumbers(256)...)
	shot, ok := impl.Expose(p, 3, 0.7)
	if !ok || slices.ContainsFunc(shot.Lights, func(x float32) bool { return !(x >= 0 && x <= 1) || same(x, num(minusZero)) }) {
		t.Errorf("Expose: got %v, %v", shot, ok)
	}
	wantBool(t, "ValidBracket of a shot", impl.ValidBracket(bracketOf([]float32{1}, shot)), true)
}
