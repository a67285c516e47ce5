package tests

import (
	"fmt"
	"math"
	"slices"
	"testing"

	"loop.example/g01308/impl"
)

// bracketOf has unused room behind its shots and its times.
func bracketOf(times []float32, shots ...impl.Picture) impl.Bracket {
	return impl.Bracket{Shots: slices.Grow(slices.Clone(shots), 3), Times: slices.Grow(slices.Clone(times), 3)}
}

// bracketOfPixel has shots of one pixel with these levels.
func bracketOfPixel(times []float32, levels ...float32) impl.Bracket {
	b := bracketOf(times)
	for _, level := range levels {
		b.Shots = append(b.Shots, pictureOf(1, 1, level))
	}
	return b
}

// powersOfTwo are so many times, from 1/4 on.
func powersOfTwo(count int) []float32 {
	list := make([]float32, count)
	for k := range list {
		list[k] = float32(math.Ldexp(1, k-2))
	}
	return list
}

// exampleBracket has count shots of size by size pixels, with levels of all kinds: 0, -0, 1, and usable ones.
func exampleBracket(count int, wide, high int64) impl.Bracket {
	b := bracketOf(powersOfTwo(count))
	lights := someLights(count * int(wide*high))
	for k := range count {
		shot := pictureOf(wide, high, lights[k*int(wide*high):(k+1)*int(wide*high)]...)
		for i := range shot.Lights {
			switch (i + 3*k) % 11 {
			case 0:
				shot.Lights[i] = 1
			case 3:
				shot.Lights[i] = 0
			case 4:
				shot.Lights[i] = num(minusZero)
			}
		}
		b.Shots = append(b.Shots, shot)
	}
	return b
}

// exampleBrackets are valid ones of all numbers of shots and some sides.
func exampleBrackets() []impl.Bracket {
	var list []impl.Bracket
	for count := 1; count <= 8; count++ {
		for _, s := range [][2]int64{{1, 1}, {3, 2}, {16, 1}, {1, 16}, {16, 16}} {
			list = append(list, exampleBracket(count, s[0], s[1]))
		}
	}
	return list
}

// badTimes are times of no bracket.
func badTimes() map[string][]float32 {
	list := map[string][]float32{
		"no times":           {},
		"nine times":         powersOfTwo(9),
		"the time 0":         {0, 1},
		"the only time 0":    {0},
		"the time -0":        {num(minusZero), 1},
		"a negative time":    {-1, 1},
		"equal times":        {1, 1},
		"equal last times":   {1, 2, 3, 3},
		"falling times":      {2, 1},
		"falling last times": {1, 2, 4, 3},
	}
	for _, x := range notFinite() {
		list[fmt.Sprintf("the only time %v (%08x)", x, rawBits(x))] = []float32{x}
		list[fmt.Sprintf("the first time %v (%08x)", x, rawBits(x))] = []float32{x, 2, 3}
		list[fmt.Sprintf("the middle time %v (%08x)", x, rawBits(x))] = []float32{1, x, 3}
		list[fmt.Sprintf("the last time %v (%08x)", x, rawBits(x))] = []float32{1, 2, x}
	}
	return list
}

// badShots have sides of 2 by 2, but are no shots.
func badShots() map[string]impl.Picture {
	list := map[string]impl.Picture{}
	for _, x := range append(notFinite(), 2, -1, num(0x3f800001), num(0x80000001), num(greatest)) {
		list[fmt.Sprintf("the first level %v (%08x)", x, rawBits(x))] = pictureOf(2, 2, x, 0.5, 0.5, 0.5)
		list[fmt.Sprintf("the last level %v (%08x)", x, rawBits(x))] = pictureOf(2, 2, 0.5, 0.5, 0.5, x)
	}
	return list
}

// badBrackets have just one fault each.
func badBrackets() map[string]impl.Bracket {
	shot := pictureOf(2, 2, 0.25, 0.5, 0.75, 1)
	list := map[string]impl.Bracket{
		"the zero bracket":     {},
		"times only":           bracketOf([]float32{1}),
		"shots only":           bracketOf(nil, shot),
		"a time too many":      bracketOf([]float32{1, 2, 3}, shot, shot),
		"a time too few":       bracketOf([]float32{1}, shot, shot),
		"exchanged sides":      bracketOf([]float32{1, 2}, pictureOf(2, 1, 0, 1), pictureOf(1, 2, 0, 1)),
		"another last picture": bracketOf([]float32{1, 2, 3}, shot, shot, pictureOf(2, 1, 0, 1)),
		"another High":         bracketOf([]float32{1, 2}, pictureOf(1, 1, 0), pictureOf(1, 2, 0, 1)),
	}
	for what, times := range badTimes() {
		list[what] = bracketOf(times, repeated(shot, len(times))...)
	}
	bad := badShots()
	for what, p := range badPictures() {
		bad["a shot that is "+what] = p
	}
	for what, p := range bad {
		list["one shot, "+what] = bracketOf([]float32{1}, p)
		list["the first shot, "+what] = bracketOf([]float32{1, 2}, p, shot)
		list["the last shot, "+what] = bracketOf([]float32{1, 2}, shot, p)
	}
	return list
}

func wantBracket(t *testing.T, what string, want impl.Bracket) func(impl.Bracket, bool) {
	return func(got impl.Bracket, ok bool) {
		t.Helper()
		if !ok || told(got) != told(want) {
			t.Errorf("%s: got %v, %v, want %v", what, got, ok, want)
		}
	}
}

func wantNoBracket(t *testing.T, what string) func(impl.Bracket, bool) {
	return func(got impl.Bracket, ok bool) {
		t.Helper()
		if ok || len(got.Shots) != 0 || len(got.Times) != 0 {
			t.Errorf("%s: got %v, %v", what, got, ok)
		}
	}
}

func wantList[T comparable](t *testing.T, what string, want []T) func([]T, bool) {
	return func(got []T, ok bool) {
		t.Helper()
		if !ok || !slices.Equal(got, want) {
			t.Errorf("%s: got %v, %v, want %v", what, got, ok, want)
		}
	}
}

func wantNoList[T any](t *testing.T, what string) func([]T, bool) {
	return func(got []T, ok bool) {
		t.Helper()
		if ok || len(got) != 0 {
			t.Errorf("%s: got %v, %v", what, got, ok)
		}
	}
}

// after and before are the numbers next to x, which is greater than 0.
func after(x float32) float32  { return num(rawBits(x) + 1) }
func before(x float32) float32 { return num(rawBits(x) - 1) }
