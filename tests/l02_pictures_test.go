package tests

import (
	"fmt"
	"math"
	"testing"

	"loop.example/g01308/impl"
)

func TestLimitsOfPictures(t *testing.T) {
	if impl.MaxSide != 16 || impl.MaxBytes != 4096 {
		t.Error("a limit is not as the document says")
	}
}

func TestValidPicture(t *testing.T) {
	for _, p := range []impl.Picture{
		pictureOf(1, 1, 0),
		pictureOf(16, 16, ones(256)...),
		pictureOf(16, 1, ones(16)...),
		pictureOf(1, 16, ones(16)...),
		pictureOf(3, 2, 1, -2, num(minusZero), num(tiniest), num(greatest), num(0xff7fffff)),
	} {
		wantBool(t, fmt.Sprintf("ValidPicture of %d by %d", p.Wide, p.High), impl.ValidPicture(p), true)
	}
	for what, p := range badPictures() {
		wantBool(t, "ValidPicture of "+what, impl.ValidPicture(p), false)
	}
}

func TestSamePicture(t *testing.T) {
	nan := num(nanBits)
	p := pictureOf(2, 2, 1, 2, 3, 4)
	for _, c := range []struct {
		what string
		a, b impl.Picture
		want bool
	}{
		{"equal ones", p, pictureOf(2, 2, 1, 2, 3, 4), true},
		{"another room", p, impl.Picture{Wide: 2, High: 2, Lights: []float32{1, 2, 3, 4}}, true},
		{"another last light", p, pictureOf(2, 2, 1, 2, 3, 5), false},
		{"another first light", p, pictureOf(2, 2, 0, 2, 3, 4), false},
		{"exchanged sides", pictureOf(2, 1, 1, 2), pictureOf(1, 2, 1, 2), false},
		{"another Wide", pictureOf(3, 1, 1, 2), pictureOf(2, 1, 1, 2), false},
		{"another High", pictureOf(2, 7, 1, 2), pictureOf(2, 1, 1, 2), false},
		{"other zeros", pictureOf(1, 1, 0), pictureOf(1, 1, num(minusZero)), false},
		{"equal zeros", pictureOf(1, 1, num(minusZero)), pictureOf(1, 1, num(minusZero)), true},
		{"not-a-numbers", pictureOf(1, 1, nan), pictureOf(1, 1, num(0xff800001)), true},
		{"a not-a-number and 1", pictureOf(1, 1, nan), pictureOf(1, 1, 1), false},
		{"infinities", pictureOf(1, 1, num(infBits)), pictureOf(1, 1, num(infBits)), true},
		{"other infinities", pictureOf(1, 1, num(infBits)), pictureOf(1, 1, num(minusInfBits)), false},
		{"longer lights", pictureOf(2, 2, 1, 2, 3, 4, 5), p, false},
		{"shorter lights", pictureOf(2, 2, 1, 2, 3), p, false},
		{"invalid ones that are equal", pictureOf(-5, 99, 1), pictureOf(-5, 99, 1), true},
		{"nil and empty lights", impl.Picture{}, impl.Picture{Lights: []float32{}}, true},
	} {
		wantBool(t, "SamePicture: "+c.what, impl.SamePicture(c.a, c.b), c.want)
		wantBool(t, "SamePicture, exchanged: "+c.what, impl.SamePicture(c.b, c.a), c.want)
	}
}

func TestPlainPicture(t *testing.T) {
	for _, light := range []float32{0, num(minusZero), 0.5, -3, num(tiniest), num(greatest)} {
		for _, s := range [][2]int64{{1, 1}, {2, 1}, {1, 2}, {16, 16}, {3, 16}} {
			want := pictureOf(s[0], s[1], repeated(light, int(s[0]*s[1]))...)
			wantPicture(t, fmt.Sprintf("PlainPicture %v of %v", s, light), want)(impl.PlainPicture(s[0], s[1], light))
		}
	}
}

// badSides are sides of no picture.
func badSides() [][2]int64 {
	return [][2]int64{
		{0, 0}, {0, 1}, {1, 0}, {17, 1}, {1, 17}, {17, 17}, {-1, 1}, {1, -1}, {-1, -1}, {1 << 32, 1 << 32},
		{math.MinInt64, 1}, {1, math.MinInt64}, {math.MaxInt64, math.MaxInt64}, {math.MinInt64, math.MinInt64},
	}
}

// notFinite are numbers that no function of chapter 2 takes, but those with halves.
func notFinite() []float32 {
	return []float32{num(infBits), num(minusInfBits), num(nanBits), num(0xff800001)}
}

func TestMadePicturesFail(t *testing.T) {
	for _, s := range badSides() {
		wantNoPicture(t, fmt.Sprintf("PlainPicture %v", s))(impl.PlainPicture(s[0], s[1], 1))
		wantNoPicture(t, fmt.Sprintf("RampPicture %v", s))(impl.RampPicture(s[0], s[1], 1, 2))
		wantNoPicture(t, fmt.Sprintf("FromPlanes %v of no bytes", s))(impl.FromPlanes(s[0], s[1], ""))
		wantNoPicture(t, fmt.Sprintf("FromPlanes %v", s))(impl.FromPlanes(s[0], s[1], string(make([]byte, 34))))
	}
	for _, x := range notFinite() {
		wantNoPicture(t, fmt.Sprintf("PlainPicture of %v", x))(impl.PlainPicture(2, 2, x))
		for wide := int64(1); wide <= 3; wide++ {
			wantNoPicture(t, fmt.Sprintf("RampPicture from %v", x))(impl.RampPicture(wide, 2, x, 1))
			wantNoPicture(t, fmt.Sprintf("RampPicture to %v", x))(impl.RampPicture(wide, 2, 1, x))
			wantNoPicture(t, fmt.Sprintf("RampPicture from and to %v", x))(impl.RampPicture(wide, 2, x, x))
		}
	}
}

func TestRampPicture(t *testing.T) {
	max := num(greatest)
	for _, c := range []struct {
		wide, high int64
		from, to   float32
		want       []float32
	}{
		{3, 1, 0, 1, []float32{0, 0.5, 1}},
		{2, 3, 1, -1, []float32{1, -1, 1, -1, 1, -1}},
		{4, 2, 0, 3, []float32{0, 1, 2, 3, 0, 1, 2, 3}},
		{1, 2, 5, 9, []float32{5, 5}},
		{1, 1, num(minusZero), 9, []float32{num(minusZero)}},
		// What is between both is too great, but a picture of one column does not ask for it.
		{1, 1, -max, max, []float32{-max}},
		{2, 1, 0, max, []float32{0, max}},
		{2, 1, num(minusZero), 0, []float32{0, 0}},
		// The end is reached only as nearly as the difference tells.
		{2, 1, 0x1p25, 1, []float32{0x1p25, 0}},
	} {
		what := fmt.Sprintf("RampPicture %d by %d from %v to %v", c.wide, c.high, c.from, c.to)
		wantPicture(t, what, pictureOf(c.wide, c.high, c.want...))(impl.RampPicture(c.wide, c.high, c.from, c.to))
	}
	wantNoPicture(t, "RampPicture with too great a difference")(impl.RampPicture(2, 1, -max, max))
	wantNoPicture(t, "RampPicture with too great a difference, downwards")(impl.RampPicture(2, 1, max, -max))
}

func TestRampPictureRoundsEachOperation(t *testing.T) {
	numbers := someLights(64)
	for wide := int64(2); wide <= 16; wide++ {
		for i := 1; i < len(numbers); i++ {
			from, to := numbers[i-1], numbers[i]
			want := pictureOf(wide, 2, make([]float32, 2*wide)...)
			for x := range wide {
				light := plus(from, times(less(to, from), by(float32(x), float32(wide-1))))
				want.Lights[x], want.Lights[wide+x] = light, light
			}
			wantPicture(t, fmt.Sprintf("RampPicture %d from %v to %v", wide, from, to), want)(impl.RampPicture(wide, 2, from, to))
		}
	}
}

func TestCropPicture(t *testing.T) {
	p := steps(5, 4, 1, 1)
	for y := range int64(4) {
		for x := range int64(5) {
			for high := int64(1); high <= 4-y; high++ {
				for wide := int64(1); wide <= 5-x; wide++ {
					want := pictureOf(wide, high)
					for j := range high {
						for i := range wide {
							want.Lights = append(want.Lights, float32((y+j)*5+x+i+1))
						}
					}
					wantPicture(t, fmt.Sprintf("CropPicture at %d, %d of %d by %d", x, y, wide, high), want)(impl.CropPicture(p, x, y, wide, high))
				}
			}
		}
	}
}

func TestCropPictureFails(t *testing.T) {
	p := steps(5, 4, 1, 1)
	const least, most = math.MinInt64, math.MaxInt64
	for _, c := range [][4]int64{
		{-1, 0, 1, 1}, {0, -1, 1, 1}, {-1, 0, 2, 1}, {0, 0, 0, 1}, {0, 0, 1, 0}, {0, 0, -1, 1}, {0, 0, 1, -1},
		{0, 0, 6, 1}, {0, 0, 1, 5}, {1, 0, 5, 1}, {0, 1, 1, 4}, {5, 0, 1, 1}, {0, 4, 1, 1}, {5, 0, 0, 1}, {4, 3, 2, 1}, {4, 3, 1, 2},
		{most, 0, 1, 1}, {0, most, 1, 1}, {1, 0, most, 1}, {0, 1, 1, most}, {most, most, most, most},
		{least, 0, 1, 1}, {0, least, 1, 1}, {0, 0, least, 1}, {0, 0, 1, least}, {least, least, least, least}, {most, 0, least, 1},
	} {
		wantNoPicture(t, fmt.Sprintf("CropPicture %v", c))(impl.CropPicture(p, c[0], c[1], c[2], c[3]))
	}
}

func TestFlipAndTurnPicture(t *testing.T) {
	minus := num(minusZero)
	p := pictureOf(3, 2, 1, 2, 3, 4, 5, minus)
	wantPicture(t, "FlipPicture", pictureOf(3, 2, 3, 2, 1, minus, 5, 4))(impl.FlipPicture(p))
	wantPicture(t, "TurnPicture", pictureOf(2, 3, 4, 1, 5, 2, minus, 3))(impl.TurnPicture(p))
	for wide := int64(1); wide <= 16; wide += 5 {
		for high := int64(1); high <= 16; high += 3 {
			p := steps(wide, high, -3, 1)
			flipped, turned := p, p
			for y := range high {
				for x := range wide {
					f, _ := impl.FlipPicture(p)
					r, _ := impl.TurnPicture(p)
					if light := p.Lights[y*wide+x]; f.Lights[y*wide+wide-1-x] != light || r.Lights[x*high+high-1-y] != light {
						t.Fatalf("FlipPicture or TurnPicture of %d by %d: the pixel %d, %d is not at its place", wide, high, x, y)
					}
				}
			}
			for range 2 {
				flipped, _ = impl.FlipPicture(flipped)
			}
			for range 4 {
				turned, _ = impl.TurnPicture(turned)
			}
			wantPicture(t, "two times FlipPicture", p)(flipped, true)
			wantPicture(t, "four times TurnPicture", p)(turned, true)
		}
	}
}

func TestAddPictures(t *testing.T) {
	minus, max := num(minusZero), num(greatest)
	a := pictureOf(2, 2, 1, minus, 0x1p24, num(tiniest))
	b := pictureOf(2, 2, -3, minus, 1, num(tiniest))
	wantPicture(t, "AddPictures", pictureOf(2, 2, -2, minus, 0x1p24, num(2)))(impl.AddPictures(a, b))
	wantPicture(t, "AddPictures to the greatest light", pictureOf(1, 1, max))(impl.AddPictures(pictureOf(1, 1, max), pictureOf(1, 1, 0x1p102)))
	wantNoPicture(t, "AddPictures to too great a light")(impl.AddPictures(pictureOf(1, 1, max), pictureOf(1, 1, 0x1p103)))
	wantNoPicture(t, "AddPictures of exchanged sides")(impl.AddPictures(pictureOf(2, 1, 1, 2), pictureOf(1, 2, 1, 2)))
	wantNoPicture(t, "AddPictures of other sides")(impl.AddPictures(pictureOf(2, 1, 1, 2), pictureOf(2, 2, 1, 2, 3, 4)))
}

func TestScalePicture(t *testing.T) {
	minus, max := num(minusZero), num(greatest)
	p := pictureOf(2, 2, 1, -2, minus, num(tiniest))
	wantPicture(t, "ScalePicture by 3", pictureOf(2, 2, 3, -6, minus, num(3)))(impl.ScalePicture(p, 3))
	wantPicture(t, "ScalePicture by -0.5", pictureOf(2, 2, -0.5, 1, 0, minus))(impl.ScalePicture(p, -0.5))
	wantPicture(t, "ScalePicture by -0", pictureOf(2, 2, minus, 0, 0, minus))(impl.ScalePicture(p, minus))
	wantPicture(t, "ScalePicture to the greatest light", pictureOf(1, 1, -max))(impl.ScalePicture(pictureOf(1, 1, max), -1))
	wantNoPicture(t, "ScalePicture to too great a light")(impl.ScalePicture(pictureOf(2, 1, 0, max), num(0x3f800001)))
	for _, x := range notFinite() {
		wantNoPicture(t, fmt.Sprintf("ScalePicture by %v", x))(impl.ScalePicture(p, x))
		wantNoPicture(t, fmt.Sprintf("ScalePicture of zeros by %v", x))(impl.ScalePicture(pictureOf(1, 1, 0), x))
	}
	lights := someLights(256)
	for _, by := range lights[:20] {
		want := pictureOf(16, 16, lights...)
		for i, light := range lights {
			want.Lights[i] = times(light, by)
		}
		wantPicture(t, fmt.Sprintf("ScalePicture by %v", by), want)(impl.ScalePicture(pictureOf(16, 16, lights...), by))
	}
}

func TestMixPictures(t *testing.T) {
	minus, max := num(minusZero), num(greatest)
	a, b := pictureOf(2, 1, 1, -2), pictureOf(2, 1, 3, 2)
	wantPicture(t, "MixPictures with the share 0", a)(impl.MixPictures(a, b, 0))
	wantPicture(t, "MixPictures with the share -0", a)(impl.MixPictures(a, b, minus))
	wantPicture(t, "MixPictures with the share 1", b)(impl.MixPictures(a, b, 1))
	wantPicture(t, "MixPictures with the share 0.25", pictureOf(2, 1, 1.5, -1))(impl.MixPictures(a, b, 0.25))
	wantPicture(t, "MixPictures of zeros", pictureOf(1, 1, 0))(impl.MixPictures(pictureOf(1, 1, minus), pictureOf(1, 1, minus), 1))
	// The end is reached only as nearly as the difference tells.
	wantPicture(t, "MixPictures of great and small lights", pictureOf(1, 1, 0))(impl.MixPictures(pictureOf(1, 1, 0x1p25), pictureOf(1, 1, 1), 1))
	wantNoPicture(t, "MixPictures with too great a difference")(impl.MixPictures(pictureOf(1, 1, -max), pictureOf(1, 1, max), 0.5))
	wantNoPicture(t, "MixPictures with too great a difference and the share 0")(impl.MixPictures(pictureOf(1, 1, -max), pictureOf(1, 1, max), 0))
	wantNoPicture(t, "MixPictures of exchanged sides")(impl.MixPictures(a, pictureOf(1, 2, 3, 2), 0.5))
	for _, share := range append(notFinite(), num(0x80000001), -1, num(0x3f800001), 2) {
		wantNoPicture(t, fmt.Sprintf("MixPictures with the share %v", share))(impl.MixPictures(a, b, share))
		wantNoPicture(t, fmt.Sprintf("MixPictures of one picture with the share %v", share))(impl.MixPictures(a, a, share))
	}
	from, to := someLights(256), someLights(300)[44:]
	for _, share := range from[:20] {
		want := pictureOf(16, 16, from...)
		for i := range from {
			want.Lights[i] = plus(from[i], times(share, less(to[i], from[i])))
		}
		wantPicture(t, fmt.Sprintf("MixPictures with the share %v", share), want)(impl.MixPictures(pictureOf(16, 16, from...), pictureOf(16, 16, to...), share))
	}
}

func TestClipPicture(t *testing.T) {
	minus, max := num(minusZero), num(greatest)
	p := pictureOf(3, 2, 1, 2, 3, 4, minus, 0)
	wantPicture(t, "ClipPicture from 2 to 3", pictureOf(3, 2, 2, 2, 3, 3, 2, 2))(impl.ClipPicture(p, 2, 3))
	wantPicture(t, "ClipPicture from 2 to 2", pictureOf(3, 2, 2, 2, 2, 2, 2, 2))(impl.ClipPicture(p, 2, 2))
	// A zero is not less or greater than the other one.
	wantPicture(t, "ClipPicture from 0 to 9", p)(impl.ClipPicture(p, 0, 9))
	wantPicture(t, "ClipPicture from -0 to 9", p)(impl.ClipPicture(p, minus, 9))
	wantPicture(t, "ClipPicture from -9 to -0", pictureOf(3, 2, minus, minus, minus, minus, minus, 0))(impl.ClipPicture(p, -9, minus))
	wantPicture(t, "ClipPicture from 0 to -0", pictureOf(3, 2, minus, minus, minus, minus, minus, 0))(impl.ClipPicture(p, 0, minus))
	wantPicture(t, "ClipPicture to all", p)(impl.ClipPicture(p, -max, max))
	wantNoPicture(t, "ClipPicture from 3 to 2")(impl.ClipPicture(p, 3, 2))
	wantNoPicture(t, "ClipPicture from 1 to the number before it")(impl.ClipPicture(p, 1, num(0x3f7fffff)))
	for _, x := range notFinite() {
		wantNoPicture(t, fmt.Sprintf("ClipPicture from %v", x))(impl.ClipPicture(p, x, 5))
		wantNoPicture(t, fmt.Sprintf("ClipPicture to %v", x))(impl.ClipPicture(p, 0, x))
		wantNoPicture(t, fmt.Sprintf("ClipPicture from and to %v", x))(impl.ClipPicture(p, x, x))
	}
}

func TestMeanLight(t *testing.T) {
	max := num(greatest)
	for _, c := range []struct {
		what string
		p    impl.Picture
		want float32
		ok   bool
	}{
		{"four lights", pictureOf(2, 2, 1, 2, 3, 4), 2.5, true},
		{"one light", pictureOf(1, 1, -7), -7, true},
		{"-0", pictureOf(1, 1, num(minusZero)), 0, true},
		{"the most lights", pictureOf(16, 16, ones(256)...), 1, true},
		{"three lights", pictureOf(3, 1, 1, 0, 0), num(0x3eaaaaab), true},
		{"in order", pictureOf(3, 1, 1, 1, 0x1p24), by(0x1p24+2, 3), true},
		{"rounded one by one", pictureOf(3, 1, 0x1p24, 1, 1), by(0x1p24, 3), true},
		{"of subnormal lights", pictureOf(2, 1, num(tiniest), num(2)), num(2), true},
		{"of the greatest light", pictureOf(1, 1, max), max, true},
		{"of too great lights", pictureOf(2, 1, max, max), 0, false},
		{"too great on the way", pictureOf(3, 1, max, max, -max), 0, false},
	} {
		wantSum(t, "MeanLight "+c.what, c.want, c.ok)(impl.MeanLight(c.p))
	}
	for what, p := range badPictures() {
		wantSum(t, "MeanLight of "+what, 0, false)(impl.MeanLight(p))
	}
}

func TestRangeOfPicture(t *testing.T) {
	minus := num(minusZero)
	for _, c := range []struct {
		p           impl.Picture
		least, most float32
	}{
		{pictureOf(2, 2, 1, 2, 3, 4), 1, 4},
		{pictureOf(2, 2, 3, 4, 1, 2), 1, 4},
		{pictureOf(1, 1, -5), -5, -5},
		{pictureOf(3, 1, num(tiniest), num(greatest), num(0xff7fffff)), num(0xff7fffff), num(greatest)},
		// Zeros are equal, and the first one of them counts.
		{pictureOf(2, 1, 0, minus), 0, 0},
		{pictureOf(2, 1, minus, 0), minus, minus},
		{pictureOf(3, 1, -1, minus, 0), -1, minus},
		{pictureOf(3, 1, 1, 0, minus), 0, 1},
	} {
		least, most, ok := impl.RangeOfPicture(c.p)
		wantBool(t, "RangeOfPicture succeeds", ok, true)
		wantNumber(t, fmt.Sprintf("least light of %v", c.p), least, c.least)
		wantNumber(t, fmt.Sprintf("greatest light of %v", c.p), most, c.most)
	}
}

func TestInvalidPicturesFail(t *testing.T) {
	good := pictureOf(2, 2, 1, 2, 3, 4)
	for what, p := range badPictures() {
		wantNoPicture(t, "CropPicture of "+what)(impl.CropPicture(p, 0, 0, 1, 1))
		wantNoPicture(t, "FlipPicture of "+what)(impl.FlipPicture(p))
		wantNoPicture(t, "TurnPicture of "+what)(impl.TurnPicture(p))
		wantNoPicture(t, "ScalePicture of "+what)(impl.ScalePicture(p, 0))
		wantNoPicture(t, "ClipPicture of "+what)(impl.ClipPicture(p, 0, 1))
		wantNoPicture(t, "HalvedPicture of "+what)(impl.HalvedPicture(p))
		for _, q := range []impl.Picture{good, p} {
			wantNoPicture(t, "AddPictures of "+what)(impl.AddPictures(p, q))
			wantNoPicture(t, "AddPictures to "+what)(impl.AddPictures(q, p))
			wantNoPicture(t, "MixPictures of "+what)(impl.MixPictures(p, q, 0))
			wantNoPicture(t, "MixPictures with "+what)(impl.MixPictures(q, p, 0))
		}
		wantSum(t, "WorstHalf of "+what, 0, false)(impl.WorstHalf(p))
		wantText(t, "PlanesOf "+what, "", false)(impl.PlanesOf(p))
		least, most, ok := impl.RangeOfPicture(p)
		if ok || told(least, most) != told(float32(0), float32(0)) {
			t.Errorf("RangeOfPicture of %s: got %v, %v, %v", what, least, most, ok)
		}
	}
}
