package tests

import (
	"fmt"
	"math"
	"testing"

	"loop.example/g01308/impl"
)

// pixelTest is a pixel, or none.
type pixelTest struct {
	x, y int64
	ok   bool
}

func pixelWay(wide, high, x, y int64) impl.Way {
	t := by(plus(float32(x), 0.5), float32(wide))
	u := by(plus(float32(y), 0.5), float32(2*high))
	return impl.Way{X: times(sine(u), cosine(t)), Y: times(sine(u), sine(t)), Z: cosine(u)}
}

// pixelAt takes what need not be a way.
func pixelAt(p impl.Picture, w impl.Way) pixelTest {
	long := root(plus(times(w.X, w.X), times(w.Y, w.Y)))
	if !isFit(w) || !finite(long) {
		return pixelTest{}
	}
	t, u := angle(w.Y, w.X), angle(long, w.Z)
	if t < 0 {
		t = plus(t, 1)
	}
	x := math.Floor(float64(times(t, float32(p.Wide))))
	y := math.Floor(float64(times(times(2, u), float32(p.High))))
	return pixelTest{inside(int64(x), p.Wide), inside(int64(y), p.High), true}
}

func lightOf(p impl.Picture, w impl.Way) float32 {
	at := pixelAt(p, w)
	if !at.ok {
		return num(nanBits)
	}
	return p.Lights[at.y*p.Wide+at.x]
}

func solid(high, wide, y int64) float32 {
	upper, lower := by(float32(y), float32(2*high)), by(float32(y+1), float32(2*high))
	return by(times(6.2831855, less(cosine(upper), cosine(lower))), float32(wide))
}

func wantPixel(t *testing.T, what string, want pixelTest) func(int64, int64, bool) {
	return func(x, y int64, ok bool) {
		t.Helper()
		if (pixelTest{x, y, ok}) != want {
			t.Errorf("%s: got %d, %d, %v, want %v", what, x, y, ok, want)
		}
	}
}

// numbered is a picture whose lights tell their pixels.
func numbered(wide, high int64) impl.Picture { return steps(wide, high, 1, 1) }

func TestWayOf(t *testing.T) {
	zero, half := num(minusZero), root(0.5)
	// The cosine of a quarter is that of half a turn, which is -0.
	wantWay(t, "WayOf the only pixel", impl.Way{X: -1, Y: zero, Z: zero})(impl.WayOf(numbered(1, 1), 0, 0))
	wantWay(t, "WayOf the first pixel of a row", impl.Way{X: zero, Y: 1, Z: zero})(impl.WayOf(numbered(2, 1), 0, 0))
	wantWay(t, "WayOf the last pixel of a row", impl.Way{X: 0, Y: -1, Z: zero})(impl.WayOf(numbered(2, 1), 1, 0))
	wantWay(t, "WayOf the first pixel of a column", impl.Way{X: -half, Y: times(half, zero), Z: half})(impl.WayOf(numbered(1, 2), 0, 0))
	wantWay(t, "WayOf the last pixel of a column", impl.Way{X: -half, Y: times(half, zero), Z: -half})(impl.WayOf(numbered(1, 2), 0, 1))
	for wide := int64(1); wide <= 16; wide++ {
		for high := int64(1); high <= 16; high++ {
			p := numbered(wide, high)
			for i := range p.Lights {
				x, y := int64(i)%wide, int64(i)/wide
				wantWay(t, fmt.Sprintf("WayOf %d, %d of %d by %d", x, y, wide, high), pixelWay(wide, high, x, y))(impl.WayOf(p, x, y))
			}
			for _, at := range [][2]int64{
				{-1, 0}, {0, -1}, {wide, 0}, {0, high}, {wide, high}, {-1, -1}, {wide, high - 1}, {wide - 1, high}, {16, 16},
				{math.MinInt64, 0}, {0, math.MinInt64}, {math.MaxInt64, 0}, {0, math.MaxInt64},
			} {
				wantNoWay(t, fmt.Sprintf("WayOf %v of %d by %d", at, wide, high))(impl.WayOf(p, at[0], at[1]))
			}
		}
	}
	for what, bad := range badPictures() {
		wantNoWay(t, "WayOf a pixel of "+what)(impl.WayOf(bad, 0, 0))
	}
}

func TestPixelOf(t *testing.T) {
	zero, tiny, max := num(minusZero), num(tiniest), num(greatest)
	p := numbered(4, 2)
	for _, c := range []struct {
		w    impl.Way
		x, y int64
	}{
		{impl.Way{X: 1, Y: 1, Z: -1}, 0, 1},
		{impl.Way{X: -1, Y: 1, Z: 1}, 1, 0},
		{impl.Way{X: -1, Y: -1, Z: 1}, 2, 0},
		{impl.Way{X: 1, Y: -1, Z: 1}, 3, 0},
		// The angles of these are 0, 1/4, 1/2 and -1/4: each begins a column. Their rows begin at 1/2.
		{impl.Way{X: 1}, 0, 1}, {impl.Way{Y: 1}, 1, 1}, {impl.Way{X: -1}, 2, 1}, {impl.Way{Y: -1}, 3, 1},
		{impl.Way{X: 1, Y: zero, Z: zero}, 0, 1}, {impl.Way{X: -1, Y: zero}, 2, 1}, {impl.Way{X: zero, Y: -1}, 3, 1},
		{impl.Way{X: 1, Z: tiny}, 0, 1}, {impl.Way{X: 1, Z: 1e-7}, 0, 0},
		// These angles are so near below 0 that 1 more of them is 1, but that of the last one is -0.
		{impl.Way{X: 1, Y: -1e-20, Z: -3}, 3, 1}, {impl.Way{X: 1, Y: -1e-44}, 3, 1}, {impl.Way{X: 1, Y: -tiny}, 0, 1},
		// Straight up and straight down.
		{impl.Way{Z: 1}, 0, 0}, {impl.Way{Z: -1}, 0, 1}, {impl.Way{X: zero, Y: zero, Z: max}, 0, 0}, {impl.Way{X: zero, Y: zero, Z: -tiny}, 0, 1}, {impl.Way{X: -1e-30, Y: 1e-30, Z: 1}, 1, 0},
		// The squares are 0, so that a flat way looks up.
		{impl.Way{X: -tiny, Y: tiny}, 1, 0}, {impl.Way{X: 1e-30, Y: -1e-30, Z: zero}, 3, 0},
		{impl.Way{X: before(0x1p64), Z: max}, 0, 0}, {impl.Way{X: -before(0x1p64), Z: -max}, 2, 1},
	} {
		wantPixel(t, fmt.Sprintf("PixelOf %v of 4 by 2", c.w), pixelTest{c.x, c.y, true})(impl.PixelOf(p, c.w))
		wantSum(t, fmt.Sprintf("LightAt %v of 4 by 2", c.w), float32(4*c.y+c.x+1), true)(impl.LightAt(p, c.w))
	}
	for _, s := range toneSides() {
		p := numbered(s[0], s[1])
		for _, w := range ways() {
			what := fmt.Sprintf("%v of %d by %d", w, p.Wide, p.High)
			at := pixelAt(p, w)
			wantPixel(t, "PixelOf "+what, at)(impl.PixelOf(p, w))
			wantSumIfFinite(t, "LightAt "+what, lightOf(p, w))(impl.LightAt(p, w))
		}
	}
}

func TestPixelOfPixels(t *testing.T) {
	for wide := int64(1); wide <= 16; wide++ {
		for high := int64(1); high <= 16; high++ {
			p := numbered(wide, high)
			for i, light := range p.Lights {
				x, y := int64(i)%wide, int64(i)/wide
				w, _ := impl.WayOf(p, x, y)
				what := fmt.Sprintf("the way of %d, %d of %d by %d", x, y, wide, high)
				wantPixel(t, "PixelOf "+what, pixelTest{x, y, true})(impl.PixelOf(p, w))
				wantSum(t, "LightAt "+what, light, true)(impl.LightAt(p, w))
			}
		}
	}
}

func TestPixelOfFails(t *testing.T) {
	max := num(greatest)
	p := numbered(4, 2)
	for _, w := range append(badWays(), impl.Way{X: 0x1p64}, impl.Way{Y: -0x1p64, Z: 1}, impl.Way{X: max, Y: max, Z: max}, impl.Way{X: before(0x1p64), Y: before(0x1p64)}) {
		wantPixel(t, fmt.Sprintf("PixelOf %v", w), pixelTest{})(impl.PixelOf(p, w))
		wantSum(t, fmt.Sprintf("LightAt %v", w), 0, false)(impl.LightAt(p, w))
	}
	for what, bad := range badPictures() {
		wantPixel(t, "PixelOf a way of "+what, pixelTest{})(impl.PixelOf(bad, impl.Way{X: 1, Y: 1, Z: 1}))
		wantSum(t, "LightAt a way of "+what, 0, false)(impl.LightAt(bad, impl.Way{X: 1, Y: 1, Z: 1}))
	}
	wantSum(t, "LightAt of -0", num(minusZero), true)(impl.LightAt(pictureOf(1, 1, num(minusZero)), impl.Way{Z: 1}))
}

func TestSolidOf(t *testing.T) {
	wantSum(t, "SolidOf the only pixel", 12.566371, true)(impl.SolidOf(numbered(1, 1), 0))
	wantSum(t, "SolidOf the upper half", 6.2831855, true)(impl.SolidOf(numbered(1, 2), 0))
	wantSum(t, "SolidOf the lower half", 6.2831855, true)(impl.SolidOf(numbered(1, 2), 1))
	wantSum(t, "SolidOf an eighth", by(6.2831855, 4), true)(impl.SolidOf(numbered(4, 2), 1))
	for wide := int64(1); wide <= 16; wide++ {
		for high := int64(1); high <= 16; high++ {
			p, whole := numbered(wide, high), 0.0
			for y := range high {
				what := fmt.Sprintf("SolidOf the row %d of %d by %d", y, wide, high)
				wantSum(t, what, solid(high, wide, y), true)(impl.SolidOf(p, y))
				share, _ := impl.SolidOf(p, y)
				wantBool(t, what+" is greater than 0", share > 0, true)
				whole += float64(share) * float64(wide)
			}
			wantBool(t, fmt.Sprintf("SolidOf all rows of %d by %d is the sphere, nearly", wide, high), math.Abs(whole-4*math.Pi) < 1e-5, true)
			for _, y := range []int64{math.MinInt64, -1, high, high + 1, math.MaxInt64} {
				wantSum(t, fmt.Sprintf("SolidOf the row %d of %d by %d", y, wide, high), 0, false)(impl.SolidOf(p, y))
			}
		}
	}
	for what, bad := range badPictures() {
		wantSum(t, "SolidOf a row of "+what, 0, false)(impl.SolidOf(bad, 0))
	}
}

func totalLight(p impl.Picture) float32 {
	total := float32(0)
	for i, light := range p.Lights {
		total = plus(total, times(light, solid(p.High, p.Wide, int64(i)/p.Wide)))
	}
	return total
}

func TestTotalLight(t *testing.T) {
	zero, max := num(minusZero), num(greatest)
	wantSum(t, "TotalLight of a pixel", 12.566371, true)(impl.TotalLight(pictureOf(1, 1, 1)))
	wantSum(t, "TotalLight of both halves", 12.566371, true)(impl.TotalLight(pictureOf(1, 2, 4, -2)))
	wantSum(t, "TotalLight of -0: a sum begins with +0", 0, true)(impl.TotalLight(pictureOf(2, 1, zero, zero)))
	for i, p := range append(tonePictures(), allPictures()...) {
		wantSumIfFinite(t, fmt.Sprintf("TotalLight %d", i), totalLight(p))(impl.TotalLight(p))
	}
	for _, s := range toneSides() {
		plain, _ := impl.PlainPicture(s[0], s[1], 1)
		total, ok := impl.TotalLight(plain)
		if !ok || !isNear(total, 12.566371, 1e-5) {
			t.Errorf("TotalLight of a plain sphere of %v: got %v, %v", s, total, ok)
		}
	}
	for what, bad := range badPictures() {
		wantSum(t, "TotalLight of "+what, 0, false)(impl.TotalLight(bad))
	}
	wantSum(t, "TotalLight that is infinite", 0, false)(impl.TotalLight(pictureOf(1, 1, max)))
	wantSum(t, "TotalLight with an infinite sum on the way", 0, false)(impl.TotalLight(pictureOf(1, 4, max/4, max/4, -max/4, -max/4)))
}

func TestBrightestWay(t *testing.T) {
	zero := num(minusZero)
	for _, c := range []struct {
		p    impl.Picture
		x, y int64
		want float32
	}{
		{pictureOf(1, 1, -5), 0, 0, -5},
		{pictureOf(3, 2, 1, 2, 3, 4, 5, 6), 2, 1, 6},
		{pictureOf(3, 2, 6, 5, 4, 3, 2, 1), 0, 0, 6},
		{pictureOf(3, 2, 1, 5, 2, 3, 5, 5), 1, 0, 5},
		{pictureOf(3, 2, 1, 3, 2, 5, 5, 1), 0, 1, 5},
		{pictureOf(4, 1, 7, 7, 7, 7), 0, 0, 7},
		{pictureOf(1, 4, -3, -2, -2, -3), 0, 1, -2},
		{pictureOf(3, 1, -1, zero, 0), 1, 0, zero},
		{pictureOf(3, 1, -1, 0, zero), 1, 0, 0},
	} {
		w, light, ok := impl.BrightestWay(c.p)
		wantWay(t, fmt.Sprintf("BrightestWay %v", c.p), pixelWay(c.p.Wide, c.p.High, c.x, c.y))(w, ok)
		wantNumber(t, fmt.Sprintf("BrightestWay %v: its light", c.p), light, c.want)
	}
	for i, p := range append(tonePictures(), allPictures()...) {
		at := 0
		for k, light := range p.Lights {
			if light > p.Lights[at] {
				at = k
			}
		}
		w, light, ok := impl.BrightestWay(p)
		wantWay(t, fmt.Sprintf("BrightestWay %d", i), pixelWay(p.Wide, p.High, int64(at)%p.Wide, int64(at)/p.Wide))(w, ok)
		wantNumber(t, fmt.Sprintf("BrightestWay %d: its light", i), light, p.Lights[at])
	}
	for what, bad := range badPictures() {
		w, light, ok := impl.BrightestWay(bad)
		wantNoWay(t, "BrightestWay of "+what)(w, ok)
		wantNumber(t, "BrightestWay of "+what, light, 0)
	}
}

// turnedSphere and tiltedSphere have a light that is a not-a-number where a turned way has none.
func turnedSphere(p impl.Picture, turn float32) impl.Picture {
	return fromLights(p.Wide, p.High, func(x, y int64) float32 {
		return lightOf(p, turnedWay(pixelWay(p.Wide, p.High, x, y), turn))
	})
}

func tiltedSphere(p impl.Picture, turn float32) impl.Picture {
	return fromLights(p.Wide, p.High, func(x, y int64) float32 {
		return lightOf(p, tiltedWay(pixelWay(p.Wide, p.High, x, y), turn))
	})
}

func TestTurnAndTiltSphere(t *testing.T) {
	p := pictureOf(4, 2, 1, 2, 3, 4, 5, 6, 7, 8)
	wantPicture(t, "TurnSphere by a pixel", pictureOf(4, 2, 2, 3, 4, 1, 6, 7, 8, 5))(impl.TurnSphere(p, 0.25))
	wantPicture(t, "TurnSphere back by a pixel", pictureOf(4, 2, 4, 1, 2, 3, 8, 5, 6, 7))(impl.TurnSphere(p, -0.25))
	wantPicture(t, "TurnSphere by 0", p)(impl.TurnSphere(p, 0))
	wantPicture(t, "TurnSphere by less than half a pixel", p)(impl.TurnSphere(p, 0.1))
	wantPicture(t, "TurnSphere by more than half a pixel", pictureOf(4, 2, 2, 3, 4, 1, 6, 7, 8, 5))(impl.TurnSphere(p, 0.15))
	wantPicture(t, "TiltSphere by 0", p)(impl.TiltSphere(p, 0))
	// The middles of these pixels are those of the eighths of a sphere: Y becomes -Z, and Z becomes Y.
	wantPicture(t, "TiltSphere by a quarter", pictureOf(4, 2, 4, 3, 7, 8, 1, 2, 6, 5))(impl.TiltSphere(p, 0.25))
	wantPicture(t, "TiltSphere by a half", pictureOf(4, 2, 8, 7, 6, 5, 4, 3, 2, 1))(impl.TiltSphere(p, 0.5))
	for _, s := range toneSides() {
		q := numbered(s[0], s[1])
		for _, turn := range turns() {
			what := fmt.Sprintf("%d by %d by %v", q.Wide, q.High, turn)
			wantIfFinite(t, "TurnSphere "+what, turnedSphere(q, turn))(impl.TurnSphere(q, turn))
			wantIfFinite(t, "TiltSphere "+what, tiltedSphere(q, turn))(impl.TiltSphere(q, turn))
		}
	}
	for i, q := range tonePictures() {
		wantIfFinite(t, fmt.Sprintf("TurnSphere %d", i), turnedSphere(q, 0.3))(impl.TurnSphere(q, 0.3))
		wantIfFinite(t, fmt.Sprintf("TiltSphere %d", i), tiltedSphere(q, 0.3))(impl.TiltSphere(q, 0.3))
	}
}

// A turn by whole pixels moves rows around, by whole turns of both signs as well.
func TestTurnSphereByWholePixels(t *testing.T) {
	for wide := int64(1); wide <= 16; wide++ {
		for _, high := range []int64{1, 2, 3, 8, 16} {
			p := numbered(wide, high)
			for pixels := -2 * wide; pixels <= 2*wide; pixels++ {
				want := fromLights(wide, high, func(x, y int64) float32 { return p.Lights[y*wide+(x+pixels+2*wide)%wide] })
				wantPicture(t, fmt.Sprintf("TurnSphere %d by %d by %d pixels", wide, high, pixels), want)(impl.TurnSphere(p, by(float32(pixels), float32(wide))))
			}
		}
	}
}

func TestTurnAndTiltSphereFail(t *testing.T) {
	for what, bad := range badPictures() {
		for _, turn := range []float32{0, 0.25, 0x1p52} {
			wantNoPicture(t, "TurnSphere of "+what)(impl.TurnSphere(bad, turn))
			wantNoPicture(t, "TiltSphere of "+what)(impl.TiltSphere(bad, turn))
		}
	}
	for _, turn := range notFinite() {
		for _, s := range toneSides() {
			wantNoPicture(t, fmt.Sprintf("TurnSphere of %v by %v", s, turn))(impl.TurnSphere(numbered(s[0], s[1]), turn))
			wantNoPicture(t, fmt.Sprintf("TiltSphere of %v by %v", s, turn))(impl.TiltSphere(numbered(s[0], s[1]), turn))
		}
	}
	// Very many turns leave only Z, which is 0 in a middle row, or only X, which is 0 in the middle of a half.
	wantNoPicture(t, "TurnSphere of one row by very many turns")(impl.TurnSphere(numbered(4, 1), 0x1p52))
	wantNoPicture(t, "TurnSphere of three rows by very many turns")(impl.TurnSphere(numbered(4, 3), -0x1p52))
	wantPicture(t, "TurnSphere of two rows by very many turns", pictureOf(2, 2, 1, 1, 3, 3))(impl.TurnSphere(numbered(2, 2), 0x1p52))
	wantNoPicture(t, "TiltSphere of two columns by very many turns")(impl.TiltSphere(numbered(2, 1), 0x1p52))
	wantPicture(t, "TiltSphere of a column by very many turns", pictureOf(1, 2, 2, 2))(impl.TiltSphere(numbered(1, 2), 0x1p52))
}
