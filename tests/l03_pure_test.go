package tests

import (
	"math"
	"slices"
	"testing"

	"loop.example/g01308/impl"
)

// wholeBracket is all memory of a bracket, with the unused room.
func wholeBracket(b impl.Bracket) string {
	s := told(whole(b.Times))
	for _, shot := range whole(b.Shots) {
		s += told(shot.Wide, shot.High, whole(shot.Lights))
	}
	return s
}

// shotsOf are the results of all functions of chapter 3 that return pictures of pictures, and those of DropShot and ShootBracket.
func shotsOf(p impl.Picture, b impl.Bracket, curve []float32) []impl.Picture {
	var list []impl.Picture
	keep := func(r impl.Picture, _ bool) {
		list = append(list, r)
	}
	keep(impl.Expose(p, 1, 1))
	keep(impl.LevelPicture(p, 65535))
	keep(impl.BendPicture(p, curve))
	keep(impl.ShiftPicture(p, 0, 0))
	keep(impl.ShiftPicture(p, 1, -1))
	noisy, _, ok := impl.NoisyPicture(p, 0, 5)
	keep(noisy, ok)
	keep(impl.MergeBracket(b))
	keep(impl.MergeShared(b, 1))
	keep(impl.MergeShared(b, 8))
	keep(impl.MedianBracket(b))
	return list
}

func bracketsOf(p impl.Picture, b impl.Bracket) []impl.Bracket {
	var list []impl.Bracket
	keep := func(r impl.Bracket, _ bool) {
		list = append(list, r)
	}
	keep(impl.ShootBracket(p, b.Times, 1))
	keep(impl.DropShot(b, 0))
	keep(impl.DropShot(b, int64(len(b.Shots))-1))
	return list
}

// ofBrackets are the results of all functions with pictures, brackets and curves.
func ofBrackets(p, q impl.Picture, b, c impl.Bracket, curve []float32) string {
	x, y, n, ok := impl.BestShift(p, q, 2)
	s := told(impl.ValidBracket(b), impl.SameBracket(b, c), impl.IsBend(curve), x, y, n, ok)
	for _, r := range shotsOf(p, b, curve) {
		s += told(r)
	}
	for _, r := range bracketsOf(p, b) {
		s += told(r)
	}
	for workers := int64(0); workers <= 9; workers++ {
		s += both(impl.MergeShared(b, workers))
	}
	s += both(impl.GhostsIn(b, 1)) + both(impl.GhostsIn(b, 3)) + both(impl.FitPower(b))
	s += both(impl.BendAt(curve, 0.3)) + both(impl.BendBack(curve, 0.7))
	return s + both(impl.NoiseBetween(p, q)) + both(impl.MedianLight(p))
}

func sampleBrackets() []impl.Bracket {
	list := []impl.Bracket{
		exampleBracket(1, 1, 1), exampleBracket(2, 3, 2), exampleBracket(8, 16, 16), exampleBracket(8, 2, 1), bracketOfPixel([]float32{num(tiniest), 1}, 1, 1),
	}
	for _, b := range list[:3] {
		list = append(list, impl.Bracket{Shots: slices.Clip(slices.Clone(b.Shots)), Times: slices.Clip(slices.Clone(b.Times))})
	}
	return list
}

func allSampleBrackets() []impl.Bracket {
	list := sampleBrackets()
	for _, b := range badBrackets() {
		list = append(list, b)
	}
	return list
}

func sampleShots() []impl.Picture {
	list := []impl.Picture{
		pictureOf(1, 1, 0.5), pictureOf(3, 2, 0, num(minusZero), 1, 0.25, 0.5, 0.75), pictureOf(16, 16, someLights(256)...), pictureOf(2, 1, -1, 7), pictureOf(2, 2, 1, 2, 3, num(nanBits)),
	}
	return append(list, impl.Picture{Wide: 2, High: 1, Lights: []float32{0.25, 0.5}}, impl.Picture{})
}

func TestBracketsAreNotChanged(t *testing.T) {
	shots, curve := sampleShots(), slices.Grow([]float32{0, 0.5, 2, 3}, 5)
	for i, b := range allSampleBrackets() {
		p, q, c := shots[i%len(shots)], shots[i/3%len(shots)], allSampleBrackets()[i]
		memory := func() string {
			return wholeBracket(b) + wholeBracket(c) + told(whole(p.Lights), whole(q.Lights), whole(curve))
		}
		before := memory()
		first := ofBrackets(p, q, b, c, curve)
		if memory() != before {
			t.Fatalf("the bracket %d: an argument is changed", i)
		}
		if again := ofBrackets(p, q, b, c, curve); again != first {
			t.Fatalf("the bracket %d: first%s, then%s", i, first, again)
		}
		tight := impl.Bracket{Shots: slices.Clip(slices.Clone(b.Shots)), Times: slices.Clip(slices.Clone(b.Times))}
		if got := ofBrackets(p, q, tight, c, slices.Clip(curve)); got != first {
			t.Fatalf("the bracket %d: the capacity is visible", i)
		}
	}
}

// The lists of a bracket are parts of longer ones, which no function may read or overwrite.
func TestUnusedRoomOfBracketsIsNotChanged(t *testing.T) {
	lights, marks := someLights(400), repeated(num(nanBits), 20)
	p := impl.Picture{Wide: 3, High: 2, Lights: slices.Concat(lights[:6], marks)[:6]}
	q := impl.Picture{Wide: 3, High: 2, Lights: slices.Concat(lights[6:12], marks)[:6]}
	b := impl.Bracket{Shots: []impl.Picture{p, q, p, p, p, p, p, p, p}[:2], Times: slices.Concat([]float32{1, 2}, marks)[:2]}
	curve := slices.Concat([]float32{0, 0.5, 2}, marks)[:3]
	memory := func() string { return wholeBracket(b) + told(whole(q.Lights), whole(curve)) }
	before := memory()
	first := ofBrackets(p, q, b, b, curve)
	if memory() != before {
		t.Error("a list or the room behind it is changed")
	}
	for _, list := range [][]float32{p.Lights, q.Lights, b.Times, curve} {
		overwrite(list[len(list):], 0.5)
	}
	overwrite(b.Shots[2:], impl.Picture{})
	if again := ofBrackets(p, q, b, b, curve); again != first {
		t.Error("the room behind a list is read")
	}
}

// A bracket may have one shot twice: its levels are the same memory.
func TestBracketsOfOneShot(t *testing.T) {
	p := pictureOf(3, 1, 0.25, 0.5, 0.75)
	b := bracketOf([]float32{1, 2, 4}, p, p, p)
	before := wholeBracket(b)
	first := ofBrackets(p, p, b, b, []float32{0, 1})
	if wholeBracket(b) != before {
		t.Error("a shot that is in a bracket more than once is changed")
	}
	dropped, ok := impl.DropShot(b, 1)
	wantBool(t, "DropShot succeeds", ok, true)
	overwrite(dropped.Shots[0].Lights, -5)
	if wholeBracket(b) != before || told(dropped.Shots[1]) != told(p) {
		t.Error("the shots of DropShot share memory")
	}
	if ofBrackets(p, p, b, b, []float32{0, 1}) != first {
		t.Error("the results are other ones in the end")
	}
}

func TestShotsAreNewMemory(t *testing.T) {
	curve := slices.Grow([]float32{0, 0.5, 1}, 3)
	for i, b := range sampleBrackets() {
		p := b.Shots[0]
		memory := func() string { return wholeBracket(b) + told(whole(p.Lights), whole(curve)) }
		before := memory()
		for k := range shotsOf(p, b, curve) {
			results := shotsOf(p, b, curve)
			others := make([]string, len(results))
			for j, r := range results {
				others[j] = told(whole(r.Lights))
			}
			overwrite(results[k].Lights, -77)
			if memory() != before {
				t.Fatalf("the bracket %d: the result %d shares memory with an argument", i, k)
			}
			for j, r := range results {
				if j != k && told(whole(r.Lights)) != others[j] {
					t.Fatalf("the bracket %d: the results %d and %d share memory", i, k, j)
				}
			}
		}
	}
}

func TestBracketsAreNewMemory(t *testing.T) {
	for i, b := range sampleBrackets() {
		p := b.Shots[0]
		before := wholeBracket(b)
		for k, r := range bracketsOf(p, b) {
			texts := make([]string, len(r.Shots))
			for j, shot := range r.Shots {
				texts[j] = told(whole(shot.Lights))
			}
			list := told(whole(r.Times))
			for j, shot := range r.Shots {
				overwrite(shot.Lights, -77)
				for l := j + 1; l < len(r.Shots); l++ {
					if told(whole(r.Shots[l].Lights)) != texts[l] {
						t.Fatalf("the bracket %d: two shots of the result %d share memory", i, k)
					}
				}
			}
			if told(whole(r.Times)) != list {
				t.Fatalf("the bracket %d: a shot and the times of the result %d share memory", i, k)
			}
			overwrite(r.Times, -78)
			overwrite(r.Shots, impl.Picture{})
			if wholeBracket(b) != before {
				t.Fatalf("the bracket %d: the result %d shares memory with an argument", i, k)
			}
		}
	}
}

func TestListsOfBracketsAreNewMemory(t *testing.T) {
	b := bracketOf([]float32{1, 2}, pictureOf(2, 1, 0.5, 0.5), pictureOf(2, 1, 0.5, 0.5))
	ghosts, _ := impl.GhostsIn(b, 1)
	other, _ := impl.GhostsIn(b, 1)
	overwrite(ghosts, 99)
	again, ok := impl.GhostsIn(b, 1)
	wantList(t, "GhostsIn after a write to a result", []int64{0, 1})(again, ok)
	wantList(t, "GhostsIn before a write to another result", []int64{0, 1})(other, ok)
	list, _ := impl.PlanTimes(3, 1, 1)
	overwrite(list, 99)
	wantList(t, "PlanTimes after a write to a result", []float32{3})(impl.PlanTimes(3, 1, 1))
}

// ofNumbers are the results of all functions of chapter 3 with numbers.
func ofNumbers(x, y, z, w float32, n, m int64) string {
	p, curve := pictureOf(2, 1, 0.25, 1), []float32{x, y, z}
	b := bracketOf([]float32{x, y}, pictureOf(2, 1, z, w), p)
	noisy, seed, ok := impl.NoisyPicture(p, x, n)
	s := told(noisy, seed, ok) + both(impl.Expose(p, x, y)) + both(impl.ShootBracket(p, []float32{x, y}, z)) + both(impl.LevelPicture(p, n)) + both(impl.HatOf(x))
	s += both(impl.MergeBracket(b)) + both(impl.MergeShared(b, n)) + both(impl.MedianBracket(b)) + both(impl.GhostsIn(b, w)) + both(impl.DropShot(b, n)) + both(impl.FitPower(b))
	s += both(impl.PlanTimes(x, y, n)) + both(impl.ShotsFor(x, y, z, w)) + told(impl.IsBend(curve), impl.ValidBracket(b), impl.SameBracket(b, b)) + both(impl.BendAt(curve, w)) + both(impl.BendBack(curve, w))
	s += both(impl.BendPicture(p, curve)) + both(impl.PowerOfPair(x, y, z)) + both(impl.ClearnessOf(x, y, z, w)) + both(impl.ShiftPicture(p, n, m))
	q := pictureOf(2, 1, x, y)
	i, j, k, found := impl.BestShift(p, q, n)
	return s + told(i, j, k, found) + both(impl.NoiseBetween(p, q)) + both(impl.MedianLight(q))
}

func TestFunctionsReturnForAllExposures(t *testing.T) {
	integers := []int64{math.MinInt64, -17, -16, -1, 0, 1, 2, 4, 5, 8, 9, 16, 17, 65535, 65536, math.MaxInt32, math.MaxInt32 + 1, math.MaxInt64}
	numbers := oddNumbers()
	i := 0
	for _, x := range numbers {
		for _, y := range numbers {
			z, w := numbers[i*7%len(numbers)], numbers[i*11%len(numbers)]
			n, m := integers[i%len(integers)], integers[i/5%len(integers)]
			first := ofNumbers(x, y, z, w, n, m)
			if again := ofNumbers(x, y, z, w, n, m); again != first {
				t.Fatalf("functions of %v, %v, %v, %v, %d and %d: first%s, then%s", x, y, z, w, n, m, first, again)
			}
			i++
		}
	}
}

func TestExposuresOfAllNotANumbersAreEqual(t *testing.T) {
	with := func(x float32) string {
		return ofNumbers(x, 1, 2, 3, 2, 1) + ofNumbers(1, x, 2, 3, 2, 1) + ofNumbers(1, 2, x, 3, 2, 1) + ofNumbers(1, 2, 3, x, 2, 1)
	}
	first := with(num(nanBits))
	for _, bits := range []uint32{0x7f800001, 0x7fffffff, 0xff800001, 0xffc00000, 0xffffffff} {
		if got := with(num(bits)); got != first {
			t.Errorf("functions of %08x: got%s, want%s", bits, got, first)
		}
	}
	wantBool(t, "SameBracket of not-a-numbers", impl.SameBracket(bracketOf([]float32{num(nanBits)}), bracketOf([]float32{num(0xffffffff)})), true)
}
