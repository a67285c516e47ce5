package tests

import (
	"fmt"
	"math"
	"slices"
	"sync"
	"testing"

	"loop.example/g01308/impl"
)

// faceTest is a place on a face, or none.
type faceTest struct {
	face int64
	a, b float32
	ok   bool
}

func wantFace(t *testing.T, what string, want faceTest) func(int64, float32, float32, bool) {
	return func(face int64, a, b float32, ok bool) {
		t.Helper()
		if told(face, a, b, ok) != told(want.face, want.a, want.b, want.ok) {
			t.Errorf("%s: got %d, %v, %v, %v, want %v", what, face, a, b, ok, want)
		}
	}
}

// onFace has the part 1 or -1 where the face has it, and a and b elsewhere.
func onFace(face int64, a, b float32) impl.Way {
	parts := slices.Insert([]float32{a, b}, int(face/2), float32(1-2*(face%2)))
	return impl.Way{X: parts[0], Y: parts[1], Z: parts[2]}
}

func faceFor(w impl.Way) faceTest {
	parts, at := partsOf(w), 0
	for k, x := range parts {
		if math.Abs(float64(x)) > math.Abs(float64(parts[at])) {
			at = k
		}
	}
	face, long := int64(2*at), float32(math.Abs(float64(parts[at])))
	if parts[at] < 0 {
		face++
	}
	rest := slices.Delete(parts, at, at+1)
	return faceTest{face, by(rest[0], long), by(rest[1], long), true}
}

func TestFaceWay(t *testing.T) {
	zero := num(minusZero)
	for _, c := range []struct {
		face int64
		a, b float32
		want impl.Way
	}{
		{0, 0.5, -0.25, impl.Way{X: 1, Y: 0.5, Z: -0.25}},
		{1, 0.5, -0.25, impl.Way{X: -1, Y: 0.5, Z: -0.25}},
		{2, 0.5, -0.25, impl.Way{X: 0.5, Y: 1, Z: -0.25}},
		{3, 0.5, -0.25, impl.Way{X: 0.5, Y: -1, Z: -0.25}},
		{4, 0.5, -0.25, impl.Way{X: 0.5, Y: -0.25, Z: 1}},
		{5, 0.5, -0.25, impl.Way{X: 0.5, Y: -0.25, Z: -1}},
		{3, 1, -1, impl.Way{X: 1, Y: -1, Z: -1}},
		{4, zero, 0, impl.Way{X: zero, Y: 0, Z: 1}},
	} {
		wantWay(t, fmt.Sprintf("FaceWay %d %v %v", c.face, c.a, c.b), c.want)(impl.FaceWay(c.face, c.a, c.b))
	}
	for face := int64(0); face < 6; face++ {
		for _, a := range parts() {
			for _, b := range parts() {
				wantWay(t, fmt.Sprintf("FaceWay %d %v %v", face, a, b), onFace(face, a, b))(impl.FaceWay(face, a, b))
			}
		}
		for _, x := range append(notFinite(), after(1), -after(1), 2, -2, num(greatest), -num(greatest)) {
			for _, a := range []float32{0, 1, -1} {
				wantNoWay(t, fmt.Sprintf("FaceWay %d %v %v", face, x, a))(impl.FaceWay(face, x, a))
				wantNoWay(t, fmt.Sprintf("FaceWay %d %v %v", face, a, x))(impl.FaceWay(face, a, x))
			}
			wantNoWay(t, fmt.Sprintf("FaceWay %d %v twice", face, x))(impl.FaceWay(face, x, x))
		}
	}
	for _, face := range []int64{math.MinInt64, -6, -2, -1, 6, 7, 12, math.MaxInt64} {
		wantNoWay(t, fmt.Sprintf("FaceWay %d", face))(impl.FaceWay(face, 0.5, -0.5))
	}
}

func TestFaceOf(t *testing.T) {
	zero := num(minusZero)
	for _, c := range []struct {
		w    impl.Way
		want faceTest
	}{
		{impl.Way{X: 2, Y: 1, Z: -1}, faceTest{0, 0.5, -0.5, true}},
		{impl.Way{X: -2, Y: 1, Z: -1}, faceTest{1, 0.5, -0.5, true}},
		{impl.Way{X: 1, Y: 2, Z: -1}, faceTest{2, 0.5, -0.5, true}},
		{impl.Way{X: 1, Y: -2, Z: -1}, faceTest{3, 0.5, -0.5, true}},
		{impl.Way{X: 1, Y: -1, Z: 2}, faceTest{4, 0.5, -0.5, true}},
		{impl.Way{X: 1, Y: -1, Z: -2}, faceTest{5, 0.5, -0.5, true}},
		// The first one of several parts tells the face, whatever their signs are.
		{impl.Way{X: 1, Y: 1, Z: 1}, faceTest{0, 1, 1, true}},
		{impl.Way{X: 1, Y: -1, Z: -1}, faceTest{0, -1, -1, true}},
		{impl.Way{X: -1, Y: 1, Z: 1}, faceTest{1, 1, 1, true}},
		{impl.Way{X: 3, Y: -3, Z: 1.5}, faceTest{0, -1, 0.5, true}},
		{impl.Way{X: -3, Y: 1.5, Z: 3}, faceTest{1, 0.5, 1, true}},
		{impl.Way{X: 1.5, Y: 3, Z: -3}, faceTest{2, 0.5, -1, true}},
		{impl.Way{X: 1.5, Y: -3, Z: 3}, faceTest{3, 0.5, 1, true}},
		// Parts of 0 and -0.
		{impl.Way{X: zero, Y: 0, Z: 5}, faceTest{4, zero, 0, true}},
		{impl.Way{X: zero, Y: 0, Z: -5}, faceTest{5, zero, 0, true}},
		{impl.Way{X: -5, Y: zero, Z: 0}, faceTest{1, zero, 0, true}},
		{impl.Way{X: 0, Y: 5, Z: zero}, faceTest{2, 0, zero, true}},
		{impl.Way{X: zero, Y: 1, Z: 1}, faceTest{2, zero, 1, true}},
		{impl.Way{Y: num(tiniest)}, faceTest{2, 0, 0, true}},
		{impl.Way{X: num(tiniest), Z: -num(greatest)}, faceTest{5, 0, 0, true}},
	} {
		wantFace(t, fmt.Sprintf("FaceOf %v", c.w), c.want)(impl.FaceOf(c.w))
	}
	for _, w := range ways() {
		wantFace(t, fmt.Sprintf("FaceOf %v", w), faceFor(w))(impl.FaceOf(w))
	}
	for _, bad := range badWays() {
		wantFace(t, fmt.Sprintf("FaceOf %v", bad), faceTest{})(impl.FaceOf(bad))
	}
}

func TestFaceOfLeadsBack(t *testing.T) {
	for face := int64(0); face < 6; face++ {
		for _, a := range parts() {
			for _, b := range parts() {
				if max(a, -a) == 1 || max(b, -b) == 1 {
					continue // edges belong to several faces
				}
				w, _ := impl.FaceWay(face, a, b)
				wantFace(t, fmt.Sprintf("FaceOf FaceWay %d %v %v", face, a, b), faceTest{face, a, b, true})(impl.FaceOf(w))
			}
		}
	}
}

func cube(p impl.Picture, side int64) []impl.Picture {
	var faces []impl.Picture
	for face := range int64(6) {
		faces = append(faces, fromLights(side, side, func(x, y int64) float32 {
			return lightOf(p, onFace(face, alongTest(x, side), alongTest(y, side)))
		}))
	}
	return faces
}

func TestCubeOf(t *testing.T) {
	// Faces of one pixel look straight along the axes.
	wantPyramid(t, "CubeOf the side 1", []impl.Picture{
		pictureOf(1, 1, 5), pictureOf(1, 1, 7), pictureOf(1, 1, 6), pictureOf(1, 1, 8), pictureOf(1, 1, 1), pictureOf(1, 1, 5),
	})(impl.CubeOf(numbered(4, 2), 1))
	wantPyramid(t, "CubeOf the side 2", []impl.Picture{
		pictureOf(2, 2, 8, 5, 4, 1), pictureOf(2, 2, 7, 6, 3, 2), pictureOf(2, 2, 6, 5, 2, 1), pictureOf(2, 2, 7, 8, 3, 4), pictureOf(2, 2, 3, 4, 2, 1), pictureOf(2, 2, 7, 8, 6, 5),
	})(impl.CubeOf(numbered(4, 2), 2))
	for i, s := range toneSides() {
		for side := int64(1); side <= 8; side++ {
			p := numbered(s[0], s[1])
			wantPyramid(t, fmt.Sprintf("CubeOf %v with the side %d", s, side), cube(p, side))(impl.CubeOf(p, side))
			q := tonePictures()[3*i+int(side)%3]
			wantPyramid(t, fmt.Sprintf("CubeOf the picture %d with the side %d", i, side), cube(q, side))(impl.CubeOf(q, side))
		}
	}
	for _, side := range []int64{math.MinInt64, -8, -1, 0, 9, 16, math.MaxInt64} {
		wantNoList[impl.Picture](t, fmt.Sprintf("CubeOf the side %d", side))(impl.CubeOf(numbered(4, 2), side))
	}
	for what, bad := range badPictures() {
		for side := int64(0); side <= 9; side++ {
			wantNoList[impl.Picture](t, "CubeOf "+what)(impl.CubeOf(bad, side))
		}
	}
}

// The workers that make faces take turns as they like, which no cube shows.
func TestCubesAreEqualWhenMadeTogether(t *testing.T) {
	p := tonePictures()[len(tonePictures())-3]
	want := told(cube(p, 8))
	var team sync.WaitGroup
	got := make([]string, 64)
	for i := range got {
		team.Go(func() {
			faces, _ := impl.CubeOf(p, 8)
			got[i] = told(faces)
		})
	}
	team.Wait()
	for i, faces := range got {
		if faces != want {
			t.Fatalf("the cube %d: got%s, want%s", i, faces, want)
		}
	}
}

func fromCube(faces []impl.Picture, wide, high int64) impl.Picture {
	at := func(a float32, side int64) int64 {
		return inside(int64(math.Floor(float64(times(times(plus(a, 1), 0.5), float32(side))))), side)
	}
	return fromLights(wide, high, func(x, y int64) float32 {
		on := faceFor(pixelWay(wide, high, x, y))
		face := faces[on.face]
		return face.Lights[at(on.b, face.High)*face.Wide+at(on.a, face.Wide)]
	})
}

func TestFromCube(t *testing.T) {
	plain := []impl.Picture{pictureOf(1, 1, 1), pictureOf(1, 1, 2), pictureOf(1, 1, 3), pictureOf(1, 1, 4), pictureOf(1, 1, 5), pictureOf(1, 1, 6)}
	wantPicture(t, "FromCube of six pixels to one pixel", pictureOf(1, 1, 2))(impl.FromCube(plain, 1, 1))
	wantPicture(t, "FromCube of six pixels to a row", pictureOf(2, 1, 3, 4))(impl.FromCube(plain, 2, 1))
	wantPicture(t, "FromCube of six pixels to 2 by 4", pictureOf(2, 4, 5, 5, 3, 4, 3, 4, 6, 6))(impl.FromCube(plain, 2, 4))
	for k, faces := range faceLists() {
		for wide := int64(1); wide <= 16; wide++ {
			for high := int64(1); high <= 16; high++ {
				what := fmt.Sprintf("FromCube of the side %d to %d by %d", k+1, wide, high)
				wantPicture(t, what, fromCube(faces, wide, high))(impl.FromCube(faces, wide, high))
			}
		}
		for _, s := range badSides() {
			wantNoPicture(t, fmt.Sprintf("FromCube of the side %d to %v", k+1, s))(impl.FromCube(faces, s[0], s[1]))
		}
	}
	for what, bad := range badFaces() {
		wantNoPicture(t, "FromCube of "+what)(impl.FromCube(bad, 1, 1))
		wantNoPicture(t, "FromCube to 4 by 3 of "+what)(impl.FromCube(bad, 4, 3))
	}
	wantNoPicture(t, "FromCube of nil")(impl.FromCube(nil, 1, 1))
}

// One half of promise 7: what a cube shows along a way is what its sphere shows there.
func TestCubesHaveTheLightsOfTheirSpheres(t *testing.T) {
	for _, s := range toneSides() {
		p := numbered(s[0], s[1])
		for side := int64(1); side <= 8; side++ {
			faces, _ := impl.CubeOf(p, side)
			for face, q := range faces {
				for i, light := range q.Lights {
					w, _ := impl.FaceWay(int64(face), alongTest(int64(i)%side, side), alongTest(int64(i)/side, side))
					wantSum(t, fmt.Sprintf("LightAt the pixel %d of the face %d of %v", i, face, s), light, true)(impl.LightAt(p, w))
				}
			}
		}
	}
	// Faces of even sides have no pixel on both sides of an eighth of the sphere.
	for _, s := range [][2]int64{{1, 1}, {2, 1}, {4, 1}, {1, 2}, {2, 2}, {4, 2}} {
		for side := int64(2); side <= 8; side += 2 {
			p := numbered(s[0], s[1])
			faces, _ := impl.CubeOf(p, side)
			wantPicture(t, fmt.Sprintf("FromCube of CubeOf %v with the side %d", s, side), p)(impl.FromCube(faces, s[0], s[1]))
		}
	}
	for _, s := range toneSides() {
		plain, _ := impl.PlainPicture(s[0], s[1], 3)
		faces, _ := impl.CubeOf(plain, 5)
		wantPicture(t, fmt.Sprintf("FromCube of CubeOf a plain picture of %v", s), plain)(impl.FromCube(faces, s[0], s[1]))
	}
}
