package tests

import (
	"fmt"
	"math"
	"slices"
	"testing"

	"loop.example/g01308/impl"
)

// kernelOf has unused room behind its numbers.
func kernelOf(numbers ...float32) []float32 { return pictureOf(0, 0, numbers...).Lights }

// kernels are valid, with all counts of numbers, among them some that are other ones from the right, zeros of both signs, and sums beside 1.
func kernels() [][]float32 {
	list := [][]float32{
		kernelOf(1), kernelOf(0x1.ff8p-1), kernelOf(1.0009), kernelOf(0.25, 0.5, 0.25), kernelOf(1, 0, 0), kernelOf(num(minusZero), num(minusZero), 1),
		kernelOf(0.5, 0, 0.25, 0.125, 0.125), kernelOf(0, 0, 0, 0, 0, 0, 1), kernelOf(1, 0, 0, 0, 0, 0, 0, 0, 0), kernelOf(num(tiniest), 1, num(minusZero)),
	}
	lights := someLights(90)
	for n := 1; n <= 9; n += 2 {
		for k := range 3 {
			kernel, sum := kernelOf(lights[10*k:10*k+n]...), float32(0)
			for i := range kernel {
				kernel[i] += 0.01
				sum += kernel[i]
			}
			for i := range kernel {
				kernel[i] /= sum
			}
			list = append(list, kernel)
		}
	}
	return list
}

// badKernels have just one fault each.
func badKernels() map[string][]float32 {
	ninth := float32(1) / 9
	list := map[string][]float32{
		"no numbers":                {},
		"two numbers":               kernelOf(0.5, 0.5),
		"four numbers":              kernelOf(repeated(float32(0.25), 4)...),
		"eight numbers":             kernelOf(repeated(float32(0.125), 8)...),
		"ten numbers":               kernelOf(repeated(float32(0.1), 10)...),
		"eleven numbers":            kernelOf(append(repeated(ninth, 9), 0, 0)...),
		"a number of more than 1":   kernelOf(1.002),
		"a number of less than 1":   kernelOf(0.998),
		"a number of 0":             kernelOf(0),
		"an opposite":               kernelOf(-1),
		"a sum of more than 1":      kernelOf(0.25, 0.502, 0.25),
		"a sum of less than 1":      kernelOf(0.25, 0.498, 0.25),
		"a sum of more than 1.001":  kernelOf(after(1.0009999)),
		"a sum of less than 0.999":  kernelOf(before(0.999)),
		"a negative first number":   kernelOf(-0.25, 1, 0.25),
		"a negative last number":    kernelOf(0.25, 1, -0.25),
		"a tiny negative number":    kernelOf(0, 1, num(0x80000001)),
		"a sum that is infinite":    kernelOf(num(greatest), 1, num(greatest)),
		"nine numbers with sum 9":   kernelOf(ones(9)...),
		"a negative number, summed": kernelOf(2, -1, 0),
	}
	for _, x := range notFinite() {
		list[fmt.Sprintf("the first number %08x", rawBits(x))] = kernelOf(x, 1, 0)
		list[fmt.Sprintf("the last number %08x", rawBits(x))] = kernelOf(0, 1, x)
		list[fmt.Sprintf("the only number %08x", rawBits(x))] = kernelOf(x)
	}
	return list
}

// pixelNear is a light, where coordinates outside are moved to the nearest one inside.
func pixelNear(p impl.Picture, x, y int64) float32 {
	return p.Lights[inside(y, p.High)*p.Wide+inside(x, p.Wide)]
}

// wantNumbers is wantList with the signs of zeros.
func wantNumbers(t *testing.T, what string, want ...float32) func([]float32, bool) {
	return func(got []float32, ok bool) {
		t.Helper()
		if !ok || told(got) != told(want) {
			t.Errorf("%s: got %v, %v, want %v", what, got, ok, want)
		}
	}
}

func wantNumbersIfFinite(t *testing.T, what string, want []float32) func([]float32, bool) {
	if !allFinite(want) {
		return wantNoList[float32](t, what+", not finite")
	}
	return wantNumbers(t, what, want...)
}

func numbersOf(c impl.Color) []float32 { return []float32{c.R, c.G, c.B} }

func wantColor(t *testing.T, what string, want impl.Color) func(impl.Color, bool) {
	return func(got impl.Color, ok bool) {
		t.Helper()
		if !ok || told(got) != told(want) {
			t.Errorf("%s: got %v, %v, want %v", what, got, ok, want)
		}
	}
}

func wantNoColor(t *testing.T, what string) func(impl.Color, bool) {
	return func(got impl.Color, ok bool) {
		t.Helper()
		if ok || told(got) != told(impl.Color{}) {
			t.Errorf("%s: got %v, %v", what, got, ok)
		}
	}
}

func wantColorIfFinite(t *testing.T, what string, want impl.Color) func(impl.Color, bool) {
	if !allFinite(numbersOf(want)) {
		return wantNoColor(t, what+", not finite")
	}
	return wantColor(t, what, want)
}

// unit is the matrix that changes nothing.
func unit() []float32 { return kernelOf(1, 0, 0, 0, 1, 0, 0, 0, 1) }

// matrices are valid: some have a back, some have none, and some have numbers of all sizes.
func matrices() [][]float32 {
	max := num(greatest)
	list := [][]float32{
		unit(), kernelOf(2, 0, 0, 0, 4, 0, 0, 0, 8), kernelOf(0, 1, 0, 0, 0, 1, 1, 0, 0), kernelOf(0, 0, 1, 0, 1, 0, 1, 0, 0), kernelOf(make([]float32, 9)...),
		kernelOf(1, 2, 3, 4, 5, 6, 7, 8, 9), kernelOf(1, 2, 3, 4, 5, 6, 7, 8, 10), kernelOf(1, 2, 3, 4, 5, 6, 7, 8, after(9)), kernelOf(repeated(num(minusZero), 9)...),
		kernelOf(repeated(max, 9)...), kernelOf(1e20, 0, 0, 0, 1e10, 0, 0, 0, 1e10), kernelOf(1e-20, 0, 0, 0, 1e-20, 0, 0, 0, 1e-20), kernelOf(1e-13, 0, 0, 0, 1e-13, 0, 0, 0, 1e-13),
		kernelOf(0.4002, 0.7076, -0.0808, -0.2263, 1.1653, 0.0457, 0, 0, 0.9182),
	}
	lights, wild := someLights(400), someNumbers(400)
	for k := range 30 {
		even := kernelOf(lights[9*k : 9*k+9]...)
		for i, x := range even {
			even[i] = 3*x - 1
		}
		list = append(list, even, kernelOf(wild[9*k:9*k+9]...))
	}
	return list
}

// badMatrices have just one fault each.
func badMatrices() map[string][]float32 {
	list := map[string][]float32{
		"no numbers":    {},
		"one number":    kernelOf(1),
		"eight numbers": unit()[:8],
		"ten numbers":   kernelOf(append(unit(), 0)...),
		"18 numbers":    kernelOf(append(unit(), unit()...)...),
	}
	for _, x := range notFinite() {
		for at := range 9 {
			m := unit()
			m[at] = x
			list[fmt.Sprintf("the number %d %08x", at, rawBits(x))] = m
		}
	}
	return list
}

func badColors() []impl.Color {
	var list []impl.Color
	for _, x := range notFinite() {
		list = append(list, impl.Color{R: x, G: 1, B: 1}, impl.Color{R: 1, G: x, B: 1}, impl.Color{R: 1, G: 1, B: x})
	}
	return list
}

// colors are finite, with lights of both signs and many sizes, among them zeros.
func colors() []impl.Color {
	zero, max := num(minusZero), num(greatest)
	list := []impl.Color{
		{}, {R: 1, G: 1, B: 1}, {R: 1, G: 2, B: 4}, {R: zero, G: zero, B: zero}, {R: zero, G: 0, B: 1}, {R: max, G: max, B: max}, {R: max, G: -max, B: 1}, {R: -max, G: -max, B: -max}, {R: num(tiniest), G: 0x1p-140, B: 0x1p-126},
	}
	lights, wild := someLights(60), someNumbers(60)
	for k := range 20 {
		list = append(list, impl.Color{R: lights[3*k], G: 2 * lights[3*k+1], B: lights[3*k+2] - 0.5}, impl.Color{R: wild[3*k], G: wild[3*k+1], B: wild[3*k+2]})
	}
	return list
}

// shots have all sides, and levels of all kinds.
func shots() []impl.Picture {
	var list []impl.Picture
	lights := someLights(600)
	for wide := int64(1); wide <= 16; wide++ {
		for high := int64(1); high <= 16; high++ {
			p := pictureOf(wide, high, lights[wide+7*high:][:wide*high]...)
			for i := range p.Lights {
				switch (i + int(wide+3*high)) % 17 {
				case 2:
					p.Lights[i] = 1
				case 7:
					p.Lights[i] = 0
				case 9:
					p.Lights[i] = num(minusZero)
				case 11:
					p.Lights[i] = float32(i%8) / 8
				case 13:
					p.Lights[i] = num(tiniest)
				}
			}
			list = append(list, p)
		}
	}
	return list
}

// noShots are pictures that are not valid, and valid ones with a light below 0 or above 1.
func noShots() map[string]impl.Picture {
	list := badPictures()
	for what, p := range badShots() {
		list[what] = p
	}
	return list
}

func badSteps() []int64 {
	return []int64{math.MinInt64, -255, -1, 0, 256, 257, 65535, math.MaxInt64}
}

func badSeeds() []int64 {
	return []int64{math.MinInt64, -1, 2147483648, 1 << 33, math.MaxInt64}
}

// shadeBy is a step of a light that has passed a threshold, from 0 to steps, divided by steps.
func shadeBy(light, threshold float32, steps int64) float32 {
	step := math.Floor(float64(plus(times(light, float32(steps)), threshold)))
	list := []float64{0, step, float64(steps)}
	slices.Sort(list)
	return by(float32(list[1]), float32(steps))
}
