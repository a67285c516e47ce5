package tests

import (
	"math"
	"slices"
	"testing"

	"loop.example/g01308/impl"
)

// spheresOf are the results of all functions of chapter 6 that return pictures, with arguments for which some change nothing.
func spheresOf(p impl.Picture, faces []impl.Picture, bands []float32) []impl.Picture {
	var results []impl.Picture
	keep := func(r impl.Picture, _ bool) {
		results = append(results, r)
	}
	keep(impl.TurnSphere(p, 0))
	keep(impl.TurnSphere(p, 0.3))
	keep(impl.TiltSphere(p, 0))
	keep(impl.TiltSphere(p, 0.3))
	keep(impl.FromCube(faces, 1, 1))
	keep(impl.FromCube(faces, 5, 4))
	keep(impl.FromBands(bands, 1, 1))
	keep(impl.FromBands(bands, 5, 4))
	keep(impl.BallPicture(bands, 1))
	keep(impl.BallPicture(bands, 5))
	for _, side := range []int64{1, 2, 5} {
		cube, _ := impl.CubeOf(p, side)
		results = append(results, cube...)
	}
	return results
}

// listsOfSpheres are the results of all functions of chapter 6 that return lists of numbers.
func listsOfSpheres(p impl.Picture, bands []float32, w impl.Way) [][]float32 {
	var results [][]float32
	keep := func(r []float32, _ bool) {
		results = append(results, r)
	}
	keep(impl.WavesAt(w))
	keep(impl.BandsOf(p))
	keep(impl.BandPowers(bands))
	keep(impl.TurnBands(bands, 0))
	keep(impl.TurnBands(bands, 0.3))
	return results
}

func allOf(results ...any) []any { return results }

// ofSpheres are the results of all functions with pictures, faces and bands.
func ofSpheres(p impl.Picture, faces []impl.Picture, bands []float32, w impl.Way) string {
	s := both(impl.WayOf(p, 0, 0)) + told(allOf(impl.PixelOf(p, w))...) + both(impl.LightAt(p, w)) + both(impl.SolidOf(p, 0)) + both(impl.TotalLight(p))
	s += told(allOf(impl.BrightestWay(p))...) + both(impl.SurfaceLight(bands, w)) + both(impl.DirectLight(p, w))
	for _, r := range spheresOf(p, faces, bands) {
		s += told(r)
	}
	for _, r := range listsOfSpheres(p, bands, w) {
		s += told(r) + ","
	}
	return s
}

func sphereSamples() []impl.Picture {
	list := tonePictures()[:30]
	for _, p := range list[:6] {
		list = append(list, impl.Picture{Wide: p.Wide, High: p.High, Lights: slices.Clip(slices.Clone(p.Lights))})
	}
	for _, p := range badPictures() {
		list = append(list, p)
	}
	return list
}

func faceSamples() [][]impl.Picture {
	list := faceLists()
	for _, faces := range badFaces() {
		list = append(list, faces)
	}
	return list
}

func bandSamples() [][]float32 {
	list := bandLists()
	for _, bands := range badBands() {
		list = append(list, bands)
	}
	return list
}

func TestSpheresAreNotChanged(t *testing.T) {
	pictures, cubes, lists, directions := sphereSamples(), faceSamples(), bandSamples(), append(fewWays(), badWays()...)
	for i := range 3 * len(cubes) {
		p, faces, bands, w := pictures[i%len(pictures)], cubes[i*5%len(cubes)], lists[i*7%len(lists)], directions[i%len(directions)]
		memory := func() string { return told(whole(p.Lights), whole(bands)) + wholeList(faces) }
		before := memory()
		first := ofSpheres(p, faces, bands, w)
		if memory() != before {
			t.Fatalf("the sample %d: an argument is changed", i)
		}
		if again := ofSpheres(p, faces, bands, w); again != first {
			t.Fatalf("the sample %d: first%s, then%s", i, first, again)
		}
		tight := impl.Picture{Wide: p.Wide, High: p.High, Lights: slices.Clip(slices.Clone(p.Lights))}
		if got := ofSpheres(tight, slices.Clip(slices.Clone(faces)), slices.Clip(slices.Clone(bands)), w); got != first {
			t.Fatalf("the sample %d: the capacity is visible", i)
		}
	}
}

// The lists are parts of longer ones, which no function may read or overwrite.
func TestUnusedRoomOfSpheresIsNotChanged(t *testing.T) {
	marks := repeated(num(nanBits), 300)
	p := impl.Picture{Wide: 3, High: 3, Lights: slices.Concat(someLights(9), marks)[:9]}
	bands := slices.Concat(someLights(9), marks)[:9]
	face := impl.Picture{Wide: 2, High: 2, Lights: slices.Concat(someLights(4), marks)[:4]}
	faces := slices.Concat(repeated(face, 6), repeated(impl.Picture{Wide: -1}, 6))[:6]
	memory := func() string { return told(whole(p.Lights), whole(bands)) + wholeList(faces) }
	before := memory()
	w := impl.Way{X: 1, Y: -2, Z: 3}
	first := ofSpheres(p, faces, bands, w)
	if memory() != before {
		t.Error("a list or the room behind it is changed")
	}
	for _, numbers := range [][]float32{p.Lights, bands, face.Lights} {
		overwrite(numbers[len(numbers):], 0.5)
	}
	overwrite(faces[6:], face)
	if again := ofSpheres(p, faces, bands, w); again != first {
		t.Error("the room behind a list is read")
	}
}

func TestSpheresAreNewMemory(t *testing.T) {
	for i, p := range sphereSamples() {
		faces, bands := faceLists()[i%8], bandLists()[i%20]
		memory := func() string { return told(whole(p.Lights), whole(bands)) + wholeList(faces) }
		before := memory()
		for k := range spheresOf(p, faces, bands) {
			results := spheresOf(p, faces, bands)
			others := make([]string, len(results))
			for j, r := range results {
				others[j] = told(whole(r.Lights))
			}
			overwrite(results[k].Lights, -77)
			if memory() != before {
				t.Fatalf("the picture %d: the result %d shares memory with an argument", i, k)
			}
			for j, r := range results {
				if j != k && told(whole(r.Lights)) != others[j] {
					t.Fatalf("the picture %d: the results %d and %d share memory", i, k, j)
				}
			}
		}
	}
}

func TestListsOfSpheresAreNewMemory(t *testing.T) {
	p, w := pictureOf(2, 2, 1, 2, 3, 4), impl.Way{X: 1, Y: 2, Z: 3}
	for i, bands := range bandSamples() {
		memory := func() string { return told(whole(p.Lights), whole(bands)) }
		before, first := memory(), listsOfSpheres(p, bands, w)
		for k := range first {
			results := listsOfSpheres(p, bands, w)
			overwrite(results[k], -77)
			if memory() != before {
				t.Fatalf("the bands %d: the result %d shares memory with an argument", i, k)
			}
			for j, r := range results {
				if j != k && told(r) != told(first[j]) {
					t.Fatalf("the bands %d: the results %d and %d share memory", i, k, j)
				}
			}
			if again := listsOfSpheres(p, bands, w); told(again[k]) != told(first[k]) {
				t.Fatalf("the bands %d: the result %d is another one after a write to it", i, k)
			}
		}
	}
}

// ofSphereNumbers are the results of all functions of chapter 6 with numbers.
func ofSphereNumbers(x, y, z, turn float32, n, m int64) string {
	p, q := pictureOf(2, 1, x, y), pictureOf(2, 2, 0.25, 1, 4, 3)
	w, v := impl.Way{X: x, Y: y, Z: z}, impl.Way{X: turn, Y: x, Z: 1}
	bands, even := []float32{x, y, z, turn, 1, 0.5, y, 0.25, x}, []float32{1, 2, 3, 4, 5, 6, 7, 8, 9}
	faces := []impl.Picture{pictureOf(1, 1, x), pictureOf(1, 1, 1), pictureOf(1, 1, y), pictureOf(1, 1, 2), pictureOf(1, 1, z), pictureOf(1, 1, 3)}
	s := told(impl.IsWay(w), impl.IsWay(v), impl.SameWay(w, v), impl.SameWay(w, w)) + both(impl.UnitWay(w)) + both(impl.InnerOf(w, v)) + both(impl.InnerOf(w, w))
	s += both(impl.TurnWay(w, turn)) + both(impl.TurnWay(v, y)) + both(impl.TiltWay(w, turn)) + both(impl.TiltWay(v, y)) + both(impl.WayOf(p, n, m)) + both(impl.WayOf(q, n, m))
	s += told(allOf(impl.PixelOf(p, v))...) + told(allOf(impl.PixelOf(q, w))...) + both(impl.LightAt(p, v)) + both(impl.LightAt(q, w)) + both(impl.SolidOf(p, n)) + both(impl.SolidOf(q, m)) + both(impl.TotalLight(p))
	s += both(impl.TurnSphere(p, z)) + both(impl.TurnSphere(q, turn)) + both(impl.TiltSphere(p, z)) + both(impl.TiltSphere(q, turn)) + told(allOf(impl.BrightestWay(p))...)
	s += both(impl.FaceWay(n, x, y)) + both(impl.FaceWay(m, 1, z)) + told(allOf(impl.FaceOf(w))...) + told(allOf(impl.FaceOf(v))...) + both(impl.CubeOf(p, 2)) + both(impl.CubeOf(q, n)) + both(impl.FromCube(faces, n, m)) + both(impl.FromCube(faces, 3, 4))
	s += both(impl.WavesAt(w)) + both(impl.BandsOf(p)) + both(impl.BandPowers(bands)) + both(impl.TurnBands(bands, z)) + both(impl.TurnBands(even, turn)) + both(impl.FromBands(bands, n, m)) + both(impl.FromBands(bands, 3, 2))
	return s + both(impl.SurfaceLight(bands, v)) + both(impl.SurfaceLight(even, w)) + both(impl.DirectLight(p, v)) + both(impl.DirectLight(q, w)) + both(impl.BallPicture(bands, n)) + both(impl.BallPicture(bands, 3))
}

func TestFunctionsReturnForAllSpheres(t *testing.T) {
	integers := []int64{math.MinInt64, -17, -1, 0, 1, 2, 3, 4, 5, 6, 8, 9, 16, 17, math.MaxInt32, math.MaxInt64 - 1, math.MaxInt64}
	numbers := oddNumbers()
	i := 0
	for _, x := range numbers {
		for _, y := range numbers {
			z, turn := numbers[i*7%len(numbers)], numbers[i*11%len(numbers)]
			n, m := integers[i%len(integers)], integers[i/5%len(integers)]
			first := ofSphereNumbers(x, y, z, turn, n, m)
			if again := ofSphereNumbers(x, y, z, turn, n, m); again != first {
				t.Fatalf("functions of %v, %v, %v, %v, %d and %d: first%s, then%s", x, y, z, turn, n, m, first, again)
			}
			i++
		}
	}
	for _, n := range integers {
		for _, m := range integers {
			ofSphereNumbers(1, 0.5, 0.25, 0, n, m)
		}
	}
}

func TestSpheresOfAllNotANumbersAreEqual(t *testing.T) {
	with := func(x float32) string {
		return ofSphereNumbers(x, 1, 2, 3, 2, 1) + ofSphereNumbers(1, x, 2, 3, 2, 1) + ofSphereNumbers(1, 2, x, 3, 2, 1) + ofSphereNumbers(1, 2, 3, x, 2, 1)
	}
	first := with(num(nanBits))
	for _, bits := range []uint32{0x7f800001, 0x7fffffff, 0xff800001, 0xffc00000, 0xffffffff} {
		if got := with(num(bits)); got != first {
			t.Errorf("functions of %08x: got%s, want%s", bits, got, first)
		}
	}
}

func TestSpheresOfNilAndEmptyListsAreEqual(t *testing.T) {
	empty, w := []float32{}, impl.Way{Z: 1}
	if got, want := ofSpheres(impl.Picture{Lights: empty}, []impl.Picture{}, empty, w), ofSpheres(impl.Picture{}, nil, nil, w); got != want {
		t.Errorf("empty lists: got%s, want%s", got, want)
	}
}
