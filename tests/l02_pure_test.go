package tests

import (
	"fmt"
	"math"
	"slices"
	"testing"

	"loop.example/g01308/impl"
)

// picturesOf are the results of all functions that return pictures, with arguments for which most of them change little.
func picturesOf(p, q impl.Picture) []impl.Picture {
	var list []impl.Picture
	keep := func(r impl.Picture, _ bool) {
		list = append(list, r)
	}
	planes, _ := impl.PlanesOf(p)
	keep(impl.PlainPicture(p.Wide, p.High, 1))
	keep(impl.RampPicture(p.Wide, p.High, 1, 2))
	keep(impl.CropPicture(p, 0, 0, p.Wide, p.High))
	keep(impl.CropPicture(p, p.Wide-1, p.High-1, 1, 1))
	keep(impl.FlipPicture(p))
	keep(impl.TurnPicture(p))
	keep(impl.AddPictures(p, q))
	keep(impl.AddPictures(p, p))
	keep(impl.ScalePicture(p, 1))
	keep(impl.MixPictures(p, q, 0))
	keep(impl.MixPictures(p, p, 1))
	keep(impl.ClipPicture(p, -num(greatest), num(greatest)))
	keep(impl.HalvedPicture(p))
	keep(impl.FromPlanes(p.Wide, p.High, planes))
	return list
}

// ofPictures are the results of all functions with pictures.
func ofPictures(p, q impl.Picture) string {
	s := told(impl.ValidPicture(p), impl.SamePicture(p, q))
	for _, r := range picturesOf(p, q) {
		s += told(r)
	}
	least, most, ok := impl.RangeOfPicture(p)
	s += told(least, most, ok)
	return s + both(impl.MeanLight(p)) + both(impl.WorstHalf(p)) + both(impl.PlanesOf(p))
}

// samples are valid and invalid pictures, with and without room behind their lights.
func samples() []impl.Picture {
	list := []impl.Picture{
		pictureOf(1, 1, 1), pictureOf(2, 1, 1, num(minusZero)), pictureOf(1, 2, 65504, 65520), pictureOf(2, 2, num(greatest), num(0xff7fffff), num(tiniest), 0),
		steps(3, 5, -2, 0.25), steps(16, 16, 0, 0x1p-9), pictureOf(16, 1, someLights(16)...), pictureOf(5, 4, someNumbers(20)...),
	}
	for _, p := range list[:4] {
		list = append(list, impl.Picture{Wide: p.Wide, High: p.High, Lights: slices.Clip(slices.Clone(p.Lights))})
	}
	for _, p := range badPictures() {
		list = append(list, p)
	}
	return list
}

func TestPicturesAreNotChanged(t *testing.T) {
	for _, p := range samples() {
		for _, q := range samples() {
			before := told(p.Wide, p.High, whole(p.Lights), q.Wide, q.High, whole(q.Lights))
			first := ofPictures(p, q)
			if after := told(p.Wide, p.High, whole(p.Lights), q.Wide, q.High, whole(q.Lights)); after != before {
				t.Fatalf("pictures of %d by %d and %d by %d: an argument is changed", p.Wide, p.High, q.Wide, q.High)
			}
			if again := ofPictures(p, q); again != first {
				t.Fatalf("pictures of %d by %d and %d by %d: first%s, then%s", p.Wide, p.High, q.Wide, q.High, first, again)
			}
			tight := impl.Picture{Wide: p.Wide, High: p.High, Lights: slices.Clip(slices.Clone(p.Lights))}
			if got := ofPictures(tight, q); got != first {
				t.Fatalf("pictures of %d by %d: the capacity is visible", p.Wide, p.High)
			}
		}
	}
}

// TestUnusedRoomIsNotChanged has marks behind the lights, which no function may overwrite or read.
func TestUnusedRoomIsNotChanged(t *testing.T) {
	room := slices.Concat(someLights(6), repeated(num(nanBits), 300))
	p := impl.Picture{Wide: 3, High: 2, Lights: room[:6]}
	before := told(room)
	first := ofPictures(p, p)
	overwrite(room[6:], 5)
	if again := ofPictures(p, p); again != first {
		t.Error("the room behind the lights is read")
	}
	overwrite(room[6:], num(nanBits))
	if told(room) != before {
		t.Error("the lights or the room behind them are changed")
	}
}

func TestPicturesAreNewMemory(t *testing.T) {
	for _, p := range samples() {
		q := impl.Picture{Wide: p.Wide, High: p.High, Lights: slices.Clone(p.Lights)}
		before := told(whole(p.Lights), whole(q.Lights))
		for i := range picturesOf(p, q) {
			results := picturesOf(p, q)
			others := make([]string, len(results))
			for k, r := range results {
				others[k] = told(whole(r.Lights))
			}
			overwrite(results[i].Lights, -77)
			if told(whole(p.Lights), whole(q.Lights)) != before {
				t.Fatalf("the result %d of a picture of %d by %d shares memory with an argument", i, p.Wide, p.High)
			}
			for k, r := range results {
				if k != i && told(whole(r.Lights)) != others[k] {
					t.Fatalf("the results %d and %d of a picture of %d by %d share memory", i, k, p.Wide, p.High)
				}
			}
		}
	}
}

// codesOf are the results of all functions with numbers, texts and codes.
func codesOf(x, y, z float32, n int64, text string) string {
	r, g, b, ok := impl.FromShare(n)
	s := told(impl.HalfOf(x), r, g, b, ok)
	s += both(impl.FromHalf(n)) + both(impl.ShareOf(x, y, z)) + both(impl.LogOf(x, y, z)) + both(impl.FromLog(n, x, y))
	s += both(impl.PlainPicture(n, n/2, x)) + both(impl.RampPicture(n, 2, x, y)) + both(impl.FromPlanes(n, 1, text))
	p := pictureOf(2, 1, 1, 2)
	s += both(impl.ScalePicture(p, x)) + both(impl.MixPictures(p, p, x)) + both(impl.ClipPicture(p, x, y)) + both(impl.CropPicture(p, n, 0, n, 1)) + both(impl.CropPicture(p, 0, n, 1, n))
	return s + both(impl.RunsOf(text)) + both(impl.FromRuns(text))
}

func TestFunctionsReturnForAllCodes(t *testing.T) {
	integers := []int64{math.MinInt64, -1 << 32, -1, 0, 1, 2, 16, 17, 255, 256, 65535, 65536, math.MaxUint32, math.MaxUint32 + 1, math.MaxInt64}
	texts := []string{"", "a", "\x01a", "\x00\x00", "\x3c\x00", "aaab", string(make([]byte, 4096)), string(make([]byte, 4097)), "\xff\xff\xff\xff"}
	i := 0
	for _, x := range oddNumbers() {
		for _, y := range oddNumbers() {
			for _, z := range []float32{1, num(tiniest), num(greatest), num(nanBits), num(infBits), num(minusZero)} {
				n, text := integers[i%len(integers)], texts[i%len(texts)]
				first := codesOf(x, y, z, n, text)
				if again := codesOf(x, y, z, n, text); again != first {
					t.Fatalf("functions of %v, %v, %v, %d and %q: first%s, then%s", x, y, z, n, text, first, again)
				}
				i++
			}
		}
	}
	for _, n := range integers {
		for _, text := range texts {
			codesOf(1, 2, 3, n, text)
		}
	}
}

func TestCodesOfAllNotANumbersAreEqual(t *testing.T) {
	first := codesOf(num(nanBits), 1, 2, 2, "a")
	for _, bits := range []uint32{0x7f800001, 0x7fffffff, 0xff800001, 0xffc00000, 0xffffffff} {
		if got := codesOf(num(bits), 1, 2, 2, "a"); got != first {
			t.Errorf("functions of %08x: got%s, want%s", bits, got, first)
		}
		wantBool(t, fmt.Sprintf("SamePicture of not-a-numbers and %08x", bits), impl.SamePicture(pictureOf(1, 1, num(nanBits)), pictureOf(1, 1, num(bits))), true)
	}
}
