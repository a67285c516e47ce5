package tests

import (
	"math"
	"slices"
	"testing"

	"loop.example/g01308/impl"
)

// opticsOf are the results of all functions of chapter 5 that return pictures, with arguments for which most of them change little.
func opticsOf(p impl.Picture, kernel []float32) []impl.Picture {
	var results []impl.Picture
	keep := func(r impl.Picture, _ bool) {
		results = append(results, r)
	}
	keep(impl.BlurPicture(p, []float32{1}))
	keep(impl.BlurPicture(p, kernel))
	keep(impl.OverPicture(p, 0))
	keep(impl.OverPicture(p, 0.5))
	keep(impl.BloomPicture(p, 0.5, 0, kernel))
	keep(impl.BloomPicture(p, 0.5, 1, kernel))
	keep(impl.ShadePicture(p, 0))
	keep(impl.ShadePicture(p, 1))
	keep(impl.UnshadePicture(p, 0))
	keep(impl.UnshadePicture(p, 0.3))
	keep(impl.WarpPicture(p, 0))
	keep(impl.WarpPicture(p, 0.2))
	keep(impl.OrderedDither(p, 1, 2))
	keep(impl.OrderedDither(p, 255, 4))
	drawn, _, ok := impl.NoiseDither(p, 255, 7)
	keep(drawn, ok)
	for _, turning := range []bool{false, true} {
		diffuse, _, ok := impl.DiffuseDither(p, 255, turning)
		keep(diffuse, ok)
	}
	return results
}

// listsOfOptics are the results of all functions of chapter 5 that return lists.
func listsOfOptics(a, b []float32, opening []complex64) [][]float32 {
	var results [][]float32
	keep := func(r []float32, _ bool) {
		results = append(results, r)
	}
	keep(impl.HillKernel(0, 1))
	keep(impl.HillKernel(4, 2))
	keep(impl.SpotOf(opening, 1))
	keep(impl.SpotOf(opening, 5))
	keep(impl.JoinMatrices(a, b))
	keep(impl.JoinMatrices(a, a))
	keep(impl.JoinMatrices(a, unit()))
	keep(impl.BackMatrix(a))
	keep(impl.WhiteMatrix(a, impl.Color{R: 1, G: 2, B: 3}, impl.Color{R: 3, G: 2, B: 1}))
	return results
}

// ofOptics are the results of all functions with pictures, kernels, matrices and openings.
func ofOptics(p impl.Picture, kernel, a, b []float32, opening []complex64) string {
	s := told(impl.IsKernel(kernel), impl.IsKernel(a)) + both(impl.SampleAt(p, complex(0.3, 0.8))) + both(impl.TurnColor(a, impl.Color{R: 1, G: 2, B: 3}))
	for _, r := range opticsOf(p, kernel) {
		s += told(r)
	}
	for _, r := range listsOfOptics(a, b, opening) {
		s += told(r) + ","
	}
	_, seed, _ := impl.NoiseDither(p, 3, 8)
	_, straight, _ := impl.DiffuseDither(p, 3, false)
	_, turning, _ := impl.DiffuseDither(p, 3, true)
	return s + told(seed, straight, turning)
}

func opticsSamples() []impl.Picture {
	list := append(shots()[:40], tonePictures()[:20]...)
	for _, p := range list[:6] {
		list = append(list, impl.Picture{Wide: p.Wide, High: p.High, Lights: slices.Clip(slices.Clone(p.Lights))})
	}
	for _, p := range noShots() {
		list = append(list, p)
	}
	return list
}

func kernelSamples() [][]float32 {
	list := kernels()
	for _, kernel := range badKernels() {
		list = append(list, kernel)
	}
	return list
}

func matrixSamples() [][]float32 {
	list := matrices()[:40]
	for _, m := range badMatrices() {
		list = append(list, m)
	}
	return list
}

func TestOpticsAreNotChanged(t *testing.T) {
	pictures, kernels, matrices := opticsSamples(), kernelSamples(), matrixSamples()
	lists := append(openings(), nil, complexOnes(33), []complex64{complex(num(nanBits), 1)})
	for i := range 4 * len(pictures) {
		p, kernel, opening := pictures[i%len(pictures)], kernels[i*7%len(kernels)], lists[i%len(lists)]
		a, b := matrices[i%len(matrices)], matrices[i*11%len(matrices)]
		memory := func() string {
			return told(whole(p.Lights), whole(kernel), whole(a), whole(b), whole(opening))
		}
		before := memory()
		first := ofOptics(p, kernel, a, b, opening)
		if memory() != before {
			t.Fatalf("the sample %d: an argument is changed", i)
		}
		if again := ofOptics(p, kernel, a, b, opening); again != first {
			t.Fatalf("the sample %d: first%s, then%s", i, first, again)
		}
		tight := impl.Picture{Wide: p.Wide, High: p.High, Lights: slices.Clip(slices.Clone(p.Lights))}
		if got := ofOptics(tight, slices.Clip(kernel), slices.Clip(a), slices.Clip(b), slices.Clip(opening)); got != first {
			t.Fatalf("the sample %d: the capacity is visible", i)
		}
	}
}

// The lists are parts of longer ones, which no function may read or overwrite.
func TestUnusedRoomOfOpticsIsNotChanged(t *testing.T) {
	marks := repeated(num(nanBits), 300)
	p := impl.Picture{Wide: 3, High: 3, Lights: slices.Concat(someLights(9), marks)[:9]}
	kernel := slices.Concat([]float32{0.25, 0.5, 0.25}, marks)[:3]
	a, b := slices.Concat([]float32{1, 2, 3, 0, 1, 4, 5, 6, 0}, marks)[:9], slices.Concat(unit(), marks)[:9]
	opening := slices.Concat(complexOnes(3), repeated(complex(num(nanBits), num(nanBits)), 40))[:3]
	memory := func() string { return told(whole(p.Lights), whole(kernel), whole(a), whole(b), whole(opening)) }
	before := memory()
	first := ofOptics(p, kernel, a, b, opening)
	if memory() != before {
		t.Error("a list or the room behind it is changed")
	}
	for _, numbers := range [][]float32{p.Lights, kernel, a, b} {
		overwrite(numbers[len(numbers):], 0.5)
	}
	overwrite(opening[3:], 0.5)
	if again := ofOptics(p, kernel, a, b, opening); again != first {
		t.Error("the room behind a list is read")
	}
}

func TestOpticsAreNewMemory(t *testing.T) {
	kernel := kernelOf(0.25, 0.5, 0.25)
	for i, p := range opticsSamples() {
		before := told(whole(p.Lights), whole(kernel))
		for k := range opticsOf(p, kernel) {
			results := opticsOf(p, kernel)
			others := make([]string, len(results))
			for j, r := range results {
				others[j] = told(whole(r.Lights))
			}
			overwrite(results[k].Lights, -77)
			if told(whole(p.Lights), whole(kernel)) != before {
				t.Fatalf("the picture %d: the result %d shares memory with an argument", i, k)
			}
			for j, r := range results {
				if j != k && told(whole(r.Lights)) != others[j] {
					t.Fatalf("the picture %d: the results %d and %d share memory", i, k, j)
				}
			}
		}
	}
}

func TestListsOfOpticsAreNewMemory(t *testing.T) {
	opening := complexOnes(5)
	for i, a := range matrixSamples() {
		b := unit()
		memory := func() string { return told(whole(a), whole(b), whole(opening)) }
		before, first := memory(), listsOfOptics(a, b, opening)
		for k := range first {
			results := listsOfOptics(a, b, opening)
			overwrite(results[k], -77)
			if memory() != before {
				t.Fatalf("the matrix %d: the result %d shares memory with an argument", i, k)
			}
			for j, r := range results {
				if j != k && told(r) != told(first[j]) {
					t.Fatalf("the matrix %d: the results %d and %d share memory", i, k, j)
				}
			}
			if again := listsOfOptics(a, b, opening); told(again[k]) != told(first[k]) {
				t.Fatalf("the matrix %d: the result %d is another one after a write to it", i, k)
			}
		}
	}
}

// ofOpticsNumbers are the results of all functions of chapter 5 with numbers.
func ofOpticsNumbers(x, y, z, w float32, n, m int64) string {
	p, q, shot := pictureOf(2, 1, x, y), pictureOf(2, 2, 0.25, 1, 4, 3), pictureOf(2, 2, 0.25, 1, 0, 0.7)
	c, d, at := impl.Color{R: x, G: y, B: z}, impl.Color{R: w, G: x, B: 1}, complex(x, y)
	kernel, matrix := []float32{x, y, z}, []float32{x, y, z, w, 1, 0.5, y, 0.25, x}
	s := told(impl.IsKernel(kernel), impl.IsKernel([]float32{x}), impl.SameColor(c, d), impl.SameColor(c, c)) + both(impl.HillKernel(n, x)) + both(impl.HillKernel(4, y))
	s += both(impl.BlurPicture(q, kernel)) + both(impl.BlurPicture(p, []float32{1})) + both(impl.OverPicture(p, z)) + both(impl.OverPicture(q, x))
	s += both(impl.BloomPicture(p, z, w, []float32{1})) + both(impl.BloomPicture(q, x, y, kernel)) + both(impl.BloomPicture(q, x, y, []float32{0.25, 0.5, 0.25}))
	s += both(impl.ShadePicture(p, z)) + both(impl.ShadePicture(q, x)) + both(impl.UnshadePicture(p, z)) + both(impl.UnshadePicture(q, x))
	s += both(impl.BendPlace(at, z)) + both(impl.BendPlace(at, 0.25)) + both(impl.UnbendPlace(at, z)) + both(impl.UnbendPlace(at, -0.25)) + both(impl.SampleAt(p, complex(z, w))) + both(impl.SampleAt(q, at)) + both(impl.WarpPicture(p, z)) + both(impl.WarpPicture(q, x))
	s += both(impl.SpotOf([]complex64{at, complex(z, w)}, n)) + both(impl.SpotOf([]complex64{at}, 2)) + both(impl.GreyOf(c))
	s += both(impl.TurnColor(matrix, c)) + both(impl.TurnColor(unit(), d)) + both(impl.JoinMatrices(matrix, unit())) + both(impl.JoinMatrices(matrix, matrix)) + both(impl.BackMatrix(matrix)) + both(impl.WhiteMatrix(matrix, c, d)) + both(impl.WhiteMatrix(unit(), c, d))
	s += both(impl.ThresholdAt(n, 1, 2)) + both(impl.ThresholdAt(2, n, m)) + both(impl.ThresholdAt(4, n, m)) + both(impl.OrderedDither(shot, n, m)) + both(impl.OrderedDither(shot, n, 4)) + both(impl.OrderedDither(p, 3, 2))
	drawn, seed, ok := impl.NoiseDither(shot, n, m)
	s += told(drawn, seed, ok)
	drawn, seed, ok = impl.NoiseDither(p, 3, n)
	s += told(drawn, seed, ok)
	diffuse, lost, too := impl.DiffuseDither(shot, n, m > 2)
	s += told(diffuse, lost, too)
	diffuse, lost, too = impl.DiffuseDither(p, 3, true)
	return s + told(diffuse, lost, too)
}

func TestFunctionsReturnForAllOptics(t *testing.T) {
	integers := []int64{math.MinInt64, -17, -1, 0, 1, 2, 3, 4, 5, 8, 9, 32, 33, 255, 256, 1000000, 1000001, math.MaxInt32, math.MaxInt32 + 1, math.MaxInt64 - 1, math.MaxInt64}
	numbers := oddNumbers()
	i := 0
	for _, x := range numbers {
		for _, y := range numbers {
			z, w := numbers[i*7%len(numbers)], numbers[i*11%len(numbers)]
			n, m := integers[i%len(integers)], integers[i/5%len(integers)]
			first := ofOpticsNumbers(x, y, z, w, n, m)
			if again := ofOpticsNumbers(x, y, z, w, n, m); again != first {
				t.Fatalf("functions of %v, %v, %v, %v, %d and %d: first%s, then%s", x, y, z, w, n, m, first, again)
			}
			i++
		}
	}
	for _, n := range integers {
		for _, m := range integers {
			ofOpticsNumbers(1, 0.5, 0.25, 0, n, m)
		}
	}
}

func TestOpticsOfAllNotANumbersAreEqual(t *testing.T) {
	with := func(x float32) string {
		return ofOpticsNumbers(x, 1, 2, 3, 2, 1) + ofOpticsNumbers(1, x, 2, 3, 2, 1) + ofOpticsNumbers(1, 2, x, 3, 2, 1) + ofOpticsNumbers(1, 2, 3, x, 2, 1)
	}
	first := with(num(nanBits))
	for _, bits := range []uint32{0x7f800001, 0x7fffffff, 0xff800001, 0xffc00000, 0xffffffff} {
		if got := with(num(bits)); got != first {
			t.Errorf("functions of %08x: got%s, want%s", bits, got, first)
		}
	}
}

func TestOpticsOfNilAndEmptyListsAreEqual(t *testing.T) {
	empty := []float32{}
	if got, want := ofOptics(impl.Picture{Lights: empty}, empty, empty, empty, []complex64{}), ofOptics(impl.Picture{}, nil, nil, nil, nil); got != want {
		t.Errorf("empty lists: got%s, want%s", got, want)
	}
}
