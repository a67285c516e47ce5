package tests

import (
	"fmt"
	"math"
	"slices"
	"testing"

	"loop.example/g01308/impl"
)

// wayParts are of all kinds; the squares of some are 0, just more than 0, nearly infinite, or infinite.
func wayParts() []float32 {
	return []float32{
		0, num(minusZero), 1, -1, 0.5, -2, 3.7, num(tiniest), num(0x80000001), 0x1p-75, after(0x1p-75), -1e-20, before(0x1p64), 0x1p64, -1e30, num(greatest),
	}
}

// ways have all three of wayParts, but not only zeros, and then ways of all directions.
func ways() []impl.Way {
	var list []impl.Way
	for _, x := range wayParts() {
		for _, y := range wayParts() {
			for _, z := range wayParts() {
				if x != 0 || y != 0 || z != 0 {
					list = append(list, impl.Way{X: x, Y: y, Z: z})
				}
			}
		}
	}
	return append(list, fewWays()...)
}

// fewWays are along the axes and between them, with zeros of both signs, and of all directions.
func fewWays() []impl.Way {
	zero := num(minusZero)
	var list []impl.Way
	for _, x := range []float32{0, zero, 1, -1} {
		for _, y := range []float32{0, zero, 1, -1} {
			for _, z := range []float32{0, zero, 1, -1} {
				if x != 0 || y != 0 || z != 0 {
					list = append(list, impl.Way{X: x, Y: y, Z: z})
				}
			}
		}
	}
	lights := someLights(120)
	for k := range 40 {
		size := float32(math.Ldexp(1, k-20))
		list = append(list, impl.Way{X: size * (lights[3*k] - 0.5), Y: size * (lights[3*k+1] - 0.5), Z: size * (lights[3*k+2] - 0.5)})
	}
	return list
}

// badWays are no ways: all parts are zeros, or one is not finite.
func badWays() []impl.Way {
	zero := num(minusZero)
	var list []impl.Way
	for _, x := range []float32{0, zero} {
		for _, y := range []float32{0, zero} {
			list = append(list, impl.Way{X: x, Y: y}, impl.Way{X: x, Y: y, Z: zero})
		}
	}
	for _, x := range notFinite() {
		list = append(list, impl.Way{X: x, Y: 1, Z: 1}, impl.Way{X: 1, Y: x, Z: 1}, impl.Way{X: 1, Y: 1, Z: x})
		list = append(list, impl.Way{X: x}, impl.Way{Y: x}, impl.Way{Z: x}, impl.Way{X: x, Y: x, Z: x})
	}
	return list
}

func partsOf(w impl.Way) []float32 { return []float32{w.X, w.Y, w.Z} }

func wantWay(t *testing.T, what string, want impl.Way) func(impl.Way, bool) {
	return func(got impl.Way, ok bool) {
		t.Helper()
		if !ok || told(got) != told(want) {
			t.Errorf("%s: got %v, %v, want %v", what, got, ok, want)
		}
	}
}

func wantNoWay(t *testing.T, what string) func(impl.Way, bool) {
	return func(got impl.Way, ok bool) {
		t.Helper()
		if ok || told(got) != told(impl.Way{}) {
			t.Errorf("%s: got %v, %v", what, got, ok)
		}
	}
}

func isFit(w impl.Way) bool {
	return allFinite(partsOf(w)) && (w.X != 0 || w.Y != 0 || w.Z != 0)
}

// wantWayIfFit takes what the tests compute: a function fails if this is no way.
func wantWayIfFit(t *testing.T, what string, want impl.Way) func(impl.Way, bool) {
	if !isFit(want) {
		return wantNoWay(t, what+", no way")
	}
	return wantWay(t, what, want)
}

var knownSines = map[uint32]float32{}

// sine is that of math/big; chapter 1 is tested with it.
func sine(turns float32) float32 {
	switch {
	case !finite(turns):
		return num(nanBits)
	case math.Abs(float64(turns)) >= 0x1p52:
		return 0
	}
	bits := rawBits(turns)
	if _, ok := knownSines[bits]; !ok {
		knownSines[bits] = wideSine(toWide(float64(turns))).narrow()
	}
	return knownSines[bits]
}

func cosine(turns float32) float32 { return sine(plus(turns, 0.25)) }

var knownAngles = map[[2]uint32]float32{}

// angle takes finite numbers, and is that of math/big as well.
func angle(y, x float32) float32 {
	if y == 0 && x == 0 {
		return 0
	}
	bits := [2]uint32{rawBits(y), rawBits(x)}
	if _, ok := knownAngles[bits]; !ok {
		knownAngles[bits] = wideAngle(y, x)
	}
	return knownAngles[bits]
}

// turns are 0, parts of a turn, whole turns and more of both signs, and such as have no places behind the point.
func turns() []float32 {
	list := []float32{
		0, num(minusZero), 0.25, -0.25, 0.5, -0.5, 0.75, 1, -1, 1.25, 2.5, -3.75, before(0.25), after(0.25), 0.0625, 0.1875, 1e-10, -0x1p-70,
		1e6, -12345.678, 0x1p23, 0x1p51, before(0x1p52), 0x1p52, -0x1p52, 1e30, num(greatest), -num(greatest), 0x1p127, before(0x1p127),
	}
	for _, x := range someLights(12) {
		list = append(list, x, -3*x)
	}
	return list
}

// alongTest is where the middle of a pixel lies on a side from -1 to 1, rounded twice.
func alongTest(at, side int64) float32 {
	return less(by(plus(times(2, float32(at)), 1), float32(side)), 1)
}

// fromLights is the picture of what a test computes of each pixel.
func fromLights(wide, high int64, light func(x, y int64) float32) impl.Picture {
	p := pictureOf(wide, high, make([]float32, wide*high)...)
	return changed(p, func(i int, _ float32) float32 { return light(int64(i)%wide, int64(i)/wide) })
}

// faceLists are valid: cubes with faces of all sides, whose lights all differ.
func faceLists() [][]impl.Picture {
	var list [][]impl.Picture
	for side := int64(1); side <= 8; side++ {
		var faces []impl.Picture
		for face := range 6 {
			faces = append(faces, steps(side, side, float32(100*face), 1))
		}
		list = append(list, slices.Grow(faces, 3))
	}
	return list
}

// badFaces have just one fault each.
func badFaces() map[string][]impl.Picture {
	one, two := pictureOf(1, 1, 1), pictureOf(2, 2, 1, 2, 3, 4)
	list := map[string][]impl.Picture{
		"no faces":          {},
		"one face":          {one},
		"five faces":        repeated(two, 5),
		"seven faces":       repeated(two, 7),
		"faces of side 9":   repeated(steps(9, 9, 0, 1), 6),
		"faces of side 16":  repeated(steps(16, 16, 0, 1), 6),
		"wide faces":        repeated(pictureOf(2, 1, 1, 2), 6),
		"high faces":        repeated(pictureOf(1, 2, 1, 2), 6),
		"faces of 8 by 7":   repeated(steps(8, 7, 0, 1), 6),
		"faces of 9 by 8":   repeated(steps(9, 8, 0, 1), 6),
		"faces of 8 by 9":   repeated(steps(8, 9, 0, 1), 6),
		"an other 1st face": append([]impl.Picture{one}, repeated(two, 5)...),
		"an other 6th face": append(slices.Clone(repeated(two, 5)), one),
		"a wide 6th face":   append(slices.Clone(repeated(two, 5)), pictureOf(2, 1, 1, 2)),
		"a high 6th face":   append(slices.Clone(repeated(two, 5)), pictureOf(1, 2, 1, 2)),
	}
	for what, p := range badPictures() {
		for at := range 6 {
			faces := repeated(two, 6)
			faces[at] = p
			list[fmt.Sprintf("the face %d: %s", at, what)] = faces
		}
		list["all faces: "+what] = repeated(p, 6)
	}
	return list
}

// bandLists are nine finite numbers each, of both signs and many sizes.
func bandLists() [][]float32 {
	zero, max := num(minusZero), num(greatest)
	list := [][]float32{
		kernelOf(make([]float32, 9)...), kernelOf(repeated(zero, 9)...), kernelOf(1, 2, 3, 4, 5, 6, 7, 8, 9), kernelOf(repeated(max, 9)...), kernelOf(repeated(-max, 9)...),
		kernelOf(repeated(num(tiniest), 9)...), kernelOf(max, -max, max, -max, max, -max, max, -max, max),
	}
	for at := range 9 {
		one := kernelOf(make([]float32, 9)...)
		one[at] = 1
		list = append(list, one)
	}
	lights, wild := someLights(300), someNumbers(300)
	for k := range 15 {
		even := kernelOf(lights[9*k : 9*k+9]...)
		for i, x := range even {
			even[i] = 4*x - 2
		}
		list = append(list, even, kernelOf(wild[9*k:9*k+9]...))
	}
	return list
}

// badBands are lists that are no bands, as they are no matrices.
func badBands() map[string][]float32 { return badMatrices() }
