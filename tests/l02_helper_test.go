package tests

import (
	"fmt"
	"math"
	"testing"

	"loop.example/g01308/impl"
)

// pictureOf has unused room behind its lights, as lists of other callers may have.
func pictureOf(wide, high int64, lights ...float32) impl.Picture {
	room := make([]float32, len(lights), len(lights)+3)
	copy(room, lights)
	return impl.Picture{Wide: wide, High: high, Lights: room}
}

// steps is a picture whose lights differ by small steps, from first on.
func steps(wide, high int64, first, step float32) impl.Picture {
	p := pictureOf(wide, high, make([]float32, wide*high)...)
	for i := range p.Lights {
		p.Lights[i] = first + float32(i)*step
	}
	return p
}

// badPictures have just one fault each.
func badPictures() map[string]impl.Picture {
	list := map[string]impl.Picture{
		"the zero picture":      {},
		"no lights":             pictureOf(1, 1),
		"nil lights":            {Wide: 1, High: 1},
		"a light too many":      pictureOf(2, 2, 1, 2, 3, 4, 5),
		"a light too few":       pictureOf(2, 2, 1, 2, 3),
		"too wide":              pictureOf(17, 1, ones(17)...),
		"too high":              pictureOf(1, 17, ones(17)...),
		"not wide":              pictureOf(0, 1),
		"not high":              pictureOf(1, 0),
		"negative sides":        pictureOf(-2, -2, ones(4)...),
		"sides that overflow":   pictureOf(1<<32, 1<<32),
		"a side that overflows": pictureOf(math.MinInt64, 2),
		"a product that is 1":   pictureOf(math.MaxInt64, math.MaxInt64, 1),
	}
	for _, bits := range []uint32{infBits, minusInfBits, nanBits, 0xffffffff, 0x7f800001} {
		list[fmt.Sprintf("the first light %08x", bits)] = pictureOf(2, 2, num(bits), 2, 3, 4)
		list[fmt.Sprintf("the last light %08x", bits)] = pictureOf(2, 2, 1, 2, 3, num(bits))
	}
	return list
}

// samePictures does not go through the program, which is tested with it.
func samePictures(a, b impl.Picture) bool {
	return told(a) == told(b)
}

func wantPicture(t *testing.T, what string, want impl.Picture) func(impl.Picture, bool) {
	return func(got impl.Picture, ok bool) {
		t.Helper()
		if !ok || !samePictures(got, want) {
			t.Errorf("%s: got %v, %v, want %v", what, got, ok, want)
		}
	}
}

func wantNoPicture(t *testing.T, what string) func(impl.Picture, bool) {
	return func(got impl.Picture, ok bool) {
		t.Helper()
		if ok || got.Wide != 0 || got.High != 0 || len(got.Lights) != 0 {
			t.Errorf("%s: got %v, %v", what, got, ok)
		}
	}
}

// plus, less, times and by round each operation on its own: 64 bits are enough to round it once in effect.
func plus(a, b float32) float32  { return float32(float64(a) + float64(b)) }
func less(a, b float32) float32  { return float32(float64(a) - float64(b)) }
func times(a, b float32) float32 { return float32(float64(a) * float64(b)) }
func by(a, b float32) float32    { return float32(float64(a) / float64(b)) }

// someNumbers are finite numbers of many sizes, the same ones in each run.
func someNumbers(count int) []float32 {
	var list []float32
	for bits := uint32(1); len(list) < count; bits = bits*1664525 + 1013904223 {
		if x := num(bits); !math.IsNaN(float64(x)) && !math.IsInf(float64(x), 0) {
			list = append(list, x)
		}
	}
	return list
}

// someLights are from 0 to less than 1, with all of their bits in use.
func someLights(count int) []float32 {
	var list []float32
	for seed := uint32(7); len(list) < count; seed = seed*1664525 + 1013904223 {
		list = append(list, float32(seed>>8)/(1<<24))
	}
	return list
}
