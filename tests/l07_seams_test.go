package tests

import (
	"fmt"
	"math"
	"slices"
	"testing"

	"loop.example/g01308/impl"
)

func edgesOf(p impl.Picture) impl.Picture {
	return fromLights(p.Wide, p.High, func(x, y int64) float32 {
		across := less(pixelNear(p, x+1, y), pixelNear(p, x-1, y))
		down := less(pixelNear(p, x, y+1), pixelNear(p, x, y-1))
		return plus(withoutSign(across), withoutSign(down))
	})
}

func TestEdgesOf(t *testing.T) {
	zero, max := num(minusZero), num(greatest)
	for _, c := range []struct{ p, want impl.Picture }{
		{pictureOf(3, 2, 1, 5, 5, 1, 5, 5), pictureOf(3, 2, 4, 4, 0, 4, 4, 0)},
		{pictureOf(1, 1, 7), pictureOf(1, 1, 0)},
		{pictureOf(1, 1, zero), pictureOf(1, 1, 0)},
		{pictureOf(2, 2, zero, 0, 0, zero), pictureOf(2, 2, 0, 0, 0, 0)},
		{pictureOf(4, 1, 1, 2, 4, 8), pictureOf(4, 1, 1, 3, 6, 4)},
		{pictureOf(1, 4, 8, 4, 2, 1), pictureOf(1, 4, 4, 6, 3, 1)},
		{nine(), pictureOf(3, 3, 4, 5, 4, 7, 8, 7, 4, 5, 4)},
		{pictureOf(3, 1, max, 0, 0), pictureOf(3, 1, max, max, 0)},
		{pictureOf(2, 2, num(tiniest), 0, 0, 0), pictureOf(2, 2, num(2), num(tiniest), num(tiniest), 0)},
	} {
		wantPicture(t, fmt.Sprintf("EdgesOf %v", c.p), c.want)(impl.EdgesOf(c.p))
	}
	for i, p := range slices.Concat(tonePictures(), allPictures(), coarsePictures()) {
		wantIfFinite(t, fmt.Sprintf("EdgesOf the picture %d", i), edgesOf(p))(impl.EdgesOf(p))
	}
	// What is infinite at one pixel only.
	wantNoPicture(t, "EdgesOf an infinite difference to the right")(impl.EdgesOf(pictureOf(3, 1, -max, 0, max)))
	wantNoPicture(t, "EdgesOf an infinite difference down")(impl.EdgesOf(pictureOf(1, 3, max, 0, -max)))
	wantNoPicture(t, "EdgesOf an infinite sum")(impl.EdgesOf(pictureOf(2, 2, 0, max, max, max)))
	for what, bad := range badPictures() {
		wantNoPicture(t, "EdgesOf "+what)(impl.EdgesOf(bad))
	}
}

func TestSeamOf(t *testing.T) {
	max := num(greatest)
	for _, c := range []struct {
		p    impl.Picture
		want seamTest
	}{
		{pictureOf(3, 2, 1, 5, 5, 1, 5, 5), seamTest{[]int64{2, 2}, 0, true}},
		{pictureOf(1, 1, 7), seamTest{[]int64{0}, 0, true}},
		{pictureOf(1, 4, 8, 4, 2, 1), seamTest{[]int64{0, 0, 0, 0}, 14, true}},
		// In one row, the first of the least edges is the seam.
		{pictureOf(5, 1, 1, 2, 3, 3, 3), seamTest{[]int64{3}, 0, true}},
		{pictureOf(5, 1, 3, 3, 3, 2, 1), seamTest{[]int64{0}, 0, true}},
		{pictureOf(5, 1, 0, 2, 1, 3, 9), seamTest{[]int64{1}, 1, true}},
		// All ways cost the same: the first pixel of the last row, and the first ones above it.
		{steps(4, 3, 5, 0), seamTest{[]int64{0, 0, 0}, 0, true}},
		{nine(), seamTest{[]int64{0, 0, 0}, 15, true}},
		{pictureOf(2, 2, max, max, max, max), seamTest{[]int64{0, 0}, 0, true}},
	} {
		wantSeam(t, fmt.Sprintf("SeamOf %v", c.p), c.want)(impl.SeamOf(c.p))
	}
	for i, p := range slices.Concat(tonePictures(), allPictures(), coarsePictures()) {
		wantSeam(t, fmt.Sprintf("SeamOf the picture %d", i), seamFor(edgesOf(p)))(impl.SeamOf(p))
	}
	for what, bad := range badPictures() {
		wantSeam(t, "SeamOf "+what, seamTest{})(impl.SeamOf(bad))
	}
}

// meeting are two pictures that lie over each other as a whole, with squares of differences that are the squares of all roots.
func meeting(roots impl.Picture) (impl.Picture, impl.Picture) {
	return roots, changed(roots, func(int, float32) float32 { return 0 })
}

// Seams of any costs are those along which pictures meet.
func TestSeamsOfEqualCosts(t *testing.T) {
	for _, c := range []struct {
		roots impl.Picture
		want  seamTest
	}{
		{pictureOf(3, 2, 1, 1, 1, 2, 1, 1), seamTest{[]int64{0, 1}, 2, true}},
		{pictureOf(3, 2, 1, 1, 1, 2, 2, 1), seamTest{[]int64{1, 2}, 2, true}},
		{pictureOf(3, 2, 2, 1, 1, 2, 2, 1), seamTest{[]int64{1, 2}, 2, true}},
		{pictureOf(3, 2, 2, 2, 1, 2, 2, 1), seamTest{[]int64{2, 2}, 2, true}},
		{pictureOf(3, 2, 1, 2, 2, 2, 2, 1), seamTest{[]int64{0, 0}, 5, true}},
		{pictureOf(3, 2, 2, 2, 1, 1, 2, 2), seamTest{[]int64{0, 0}, 5, true}},
		// The least cost of the last row leads away from a first pixel that costs nothing.
		{pictureOf(4, 3, 0, 3, 3, 1, 3, 3, 1, 3, 3, 3, 1, 3), seamTest{[]int64{3, 2, 2}, 3, true}},
		{pictureOf(4, 3, 0, 3, 3, 1, 0, 3, 3, 1, 3, 3, 3, 0), seamTest{[]int64{3, 3, 3}, 2, true}},
		{pictureOf(2, 1, 1, 1), seamTest{[]int64{0}, 1, true}},
		{pictureOf(3, 1, 2, 1, -1), seamTest{[]int64{1}, 1, true}},
		// Of the pixels above, the first one is taken, also where that in the middle costs more.
		{pictureOf(3, 2, 1, 2, 1, 2, 0, 2), seamTest{[]int64{0, 1}, 1, true}},
		{pictureOf(4, 2, 9, 1, 2, 1, 2, 9, 0, 2), seamTest{[]int64{1, 2}, 1, true}},
		// The whole way up counts, not the pixel above alone.
		{pictureOf(2, 3, 3, 2, 0, 2, 2, 1), seamTest{[]int64{1, 0, 1}, 5, true}},
	} {
		a, b := meeting(c.roots)
		wantSeam(t, fmt.Sprintf("MeetSeam with the roots %v", c.roots), c.want)(impl.MeetSeam(a, b, c.roots.Wide))
	}
}

func TestSeamsOfInfiniteCosts(t *testing.T) {
	max := num(greatest)
	none := seamTest{}
	wantSeam(t, "SeamOf an infinite edge", none)(impl.SeamOf(pictureOf(6, 1, 1, 1, 1, -max, 0, max)))
	wantSeam(t, "SeamOf an infinite sum in a column", none)(impl.SeamOf(pictureOf(1, 3, 0, max, 0)))
	// Only the last pixel of the last row costs too much: both pixels above it do so nearly.
	root := float32(1.4e19)
	far := []float32{0, 0, 0, root, root, 0, 0, 0, 0, root}
	a, b := meeting(pictureOf(5, 2, far...))
	wantSeam(t, "MeetSeam with an infinite sum", none)(impl.MeetSeam(a, b, 5))
	a, b = meeting(pictureOf(4, 2, slices.Delete(slices.Clone(far), 0, 2)...))
	wantSeam(t, "MeetSeam without it", seamTest{[]int64{0, 0}, 0, true})(impl.MeetSeam(b, b, 4))
	far[9] = 1e19
	a, b = meeting(pictureOf(5, 2, far...))
	wantSeam(t, "MeetSeam with a great sum", seamTest{[]int64{0, 0}, 0, true})(impl.MeetSeam(a, b, 5))
	a, b = meeting(pictureOf(5, 1, 0, 0, 0, 0, 1.9e19))
	wantSeam(t, "MeetSeam with an infinite square", none)(impl.MeetSeam(a, b, 5))
	a, b = pictureOf(5, 1, 0, 0, 0, 0, max), pictureOf(5, 1, 0, 0, 0, 0, -max)
	wantSeam(t, "MeetSeam with an infinite difference", none)(impl.MeetSeam(a, b, 5))
	a = pictureOf(5, 1, max, 0, 0, 0, 0)
	wantSeam(t, "MeetSeam beside an infinite difference", seamTest{[]int64{0}, 0, true})(impl.MeetSeam(a, b, 4))
}

func TestIsSeam(t *testing.T) {
	p := nine()
	for _, a := range []int64{-1, 0, 1, 2, 3} {
		for _, b := range []int64{-1, 0, 1, 2, 3} {
			for _, c := range []int64{-1, 0, 1, 2, 3} {
				isIn := min(a, b, c) >= 0 && max(a, b, c) <= 2
				want := isIn && apart(a, b) <= 1 && apart(b, c) <= 1
				wantBool(t, fmt.Sprintf("IsSeam %d %d %d", a, b, c), impl.IsSeam(p, []int64{a, b, c}), want)
			}
		}
	}
	for what, bad := range badSeams() {
		wantBool(t, "IsSeam of "+what, impl.IsSeam(p, bad), false)
	}
	wantBool(t, "IsSeam of nil", impl.IsSeam(p, nil), false)
	for i, q := range allPictures() {
		for k, seam := range seamsOf(q) {
			wantBool(t, fmt.Sprintf("IsSeam the seam %d of the picture %d", k, i), impl.IsSeam(q, seam), true)
		}
	}
	for what, bad := range badPictures() {
		for _, seam := range [][]int64{nil, {0}, {0, 0}, {1, 1}, make([]int64, 17)} {
			wantBool(t, fmt.Sprintf("IsSeam %v of %s", seam, what), impl.IsSeam(bad, seam), false)
		}
	}
}

func costOf(p impl.Picture, seam []int64) float32 {
	edges, cost := orNone(edgesOf(p)), float32(0)
	for y, x := range seam {
		cost = plus(cost, edges.Lights[int64(y)*p.Wide+x])
	}
	return cost
}

func TestSeamCost(t *testing.T) {
	max := num(greatest)
	two := pictureOf(3, 2, 1, 5, 5, 1, 5, 5)
	wantSum(t, "SeamCost 0 1", 8, true)(impl.SeamCost(two, []int64{0, 1}))
	wantSum(t, "SeamCost 1 2", 4, true)(impl.SeamCost(two, []int64{1, 2}))
	wantSum(t, "SeamCost of a pixel", 0, true)(impl.SeamCost(pictureOf(1, 1, num(minusZero)), []int64{0}))
	wantSum(t, "SeamCost of nine", 16, true)(impl.SeamCost(nine(), []int64{0, 1, 2}))
	for i, p := range append(tonePictures(), allPictures()...) {
		for k, seam := range seamsOf(p) {
			wantSumIfFinite(t, fmt.Sprintf("SeamCost of the seam %d of the picture %d", k, i), costOf(p, seam))(impl.SeamCost(p, seam))
		}
	}
	wantSum(t, "SeamCost that is infinite", 0, false)(impl.SeamCost(pictureOf(1, 3, 0, max, 0), []int64{0, 0, 0}))
	wantSum(t, "SeamCost beside an infinite edge", 0, false)(impl.SeamCost(pictureOf(5, 1, 1, 1, -max, 0, max), []int64{0}))
	// The greatest number is a cost, too, beside ways that cost too much.
	tall := pictureOf(5, 3, 0, 0, 0, 0, 0, 0, 0, 0, 0, max, 0, 0, 0, 0, 0)
	wantSum(t, "SeamCost of the greatest number", max, true)(impl.SeamCost(tall, []int64{2, 3, 3}))
	wantSum(t, "SeamCost of twice the greatest number", 0, false)(impl.SeamCost(tall, []int64{4, 4, 4}))
	for what, bad := range badSeams() {
		wantSum(t, "SeamCost of "+what, 0, false)(impl.SeamCost(nine(), bad))
	}
	for what, bad := range badPictures() {
		for _, seam := range [][]int64{nil, {0}, {0, 0}, {1, 1}} {
			wantSum(t, "SeamCost of "+what, 0, false)(impl.SeamCost(bad, seam))
		}
	}
}

func cut(p impl.Picture, seam []int64) impl.Picture {
	return fromLights(p.Wide-1, p.High, func(x, y int64) float32 {
		if x >= seam[y] {
			x++
		}
		return p.Lights[y*p.Wide+x]
	})
}

func TestCutSeam(t *testing.T) {
	two := pictureOf(3, 2, 1, 2, 3, 4, 5, 6)
	for _, c := range []struct {
		p    impl.Picture
		seam []int64
		want impl.Picture
	}{
		{two, seamOf(0, 0), pictureOf(2, 2, 2, 3, 5, 6)},
		{two, seamOf(2, 2), pictureOf(2, 2, 1, 2, 4, 5)},
		{two, seamOf(1, 2), pictureOf(2, 2, 1, 3, 4, 5)},
		{two, seamOf(1, 0), pictureOf(2, 2, 1, 3, 5, 6)},
		{pictureOf(2, 1, 1, num(minusZero)), seamOf(0), pictureOf(1, 1, num(minusZero))},
		{pictureOf(2, 2, 1, 2, 3, 4), seamOf(1, 0), pictureOf(1, 2, 1, 4)},
	} {
		wantPicture(t, fmt.Sprintf("CutSeam %v of %v", c.seam, c.p), c.want)(impl.CutSeam(c.p, c.seam))
	}
	for i, p := range append(tonePictures(), allPictures()...) {
		for k, seam := range seamsOf(p) {
			what := fmt.Sprintf("CutSeam the seam %d of the picture %d", k, i)
			if p.Wide == 1 {
				wantNoPicture(t, what+", which is 1 wide")(impl.CutSeam(p, seam))
				continue
			}
			wantPicture(t, what, cut(p, seam))(impl.CutSeam(p, seam))
		}
	}
	for what, bad := range badSeams() {
		wantNoPicture(t, "CutSeam of "+what)(impl.CutSeam(nine(), bad))
	}
	for what, bad := range badPictures() {
		for _, seam := range [][]int64{nil, {0}, {0, 0}, {1, 1}} {
			wantNoPicture(t, "CutSeam of "+what)(impl.CutSeam(bad, seam))
		}
	}
}

func grown(p impl.Picture, seam []int64) impl.Picture {
	return fromLights(p.Wide+1, p.High, func(x, y int64) float32 {
		row := p.Lights[y*p.Wide : (y+1)*p.Wide]
		switch {
		case x <= seam[y]:
			return row[x]
		case x > seam[y]+1:
			return row[x-1]
		case x == p.Wide:
			return row[x-1]
		}
		return by(plus(plus(0, row[x-1]), row[x]), 2)
	})
}

func TestGrowSeam(t *testing.T) {
	zero, tiny, max := num(minusZero), num(tiniest), num(greatest)
	two := pictureOf(3, 2, 1, 5, 5, 1, 5, 5)
	for _, c := range []struct {
		p    impl.Picture
		seam []int64
		want impl.Picture
	}{
		{two, seamOf(0, 0), pictureOf(4, 2, 1, 3, 5, 5, 1, 3, 5, 5)},
		{two, seamOf(2, 1), pictureOf(4, 2, 1, 5, 5, 5, 1, 5, 5, 5)},
		{pictureOf(2, 2, 1, 2, 3, 4), seamOf(1, 0), pictureOf(3, 2, 1, 2, 2, 3, 3.5, 4)},
		{pictureOf(1, 2, 3, 4), seamOf(0, 0), pictureOf(2, 2, 3, 3, 4, 4)},
		{pictureOf(1, 1, zero), seamOf(0), pictureOf(2, 1, zero, zero)},
		{pictureOf(2, 1, 0, zero), seamOf(1), pictureOf(3, 1, 0, zero, zero)},
		{pictureOf(2, 1, zero, zero), seamOf(0), pictureOf(3, 1, zero, 0, zero)}, // a sum begins with +0
		{pictureOf(2, 1, tiny, 0), seamOf(0), pictureOf(3, 1, tiny, 0, 0)},
		{pictureOf(2, 1, tiny, num(2)), seamOf(0), pictureOf(3, 1, tiny, num(2), num(2))},
		{pictureOf(2, 1, max, max), seamOf(1), pictureOf(3, 1, max, max, max)},
		{pictureOf(2, 1, max, -max), seamOf(0), pictureOf(3, 1, max, 0, -max)},
	} {
		wantPicture(t, fmt.Sprintf("GrowSeam %v of %v", c.seam, c.p), c.want)(impl.GrowSeam(c.p, c.seam))
	}
	for i, p := range append(tonePictures(), allPictures()...) {
		for k, seam := range seamsOf(p) {
			what := fmt.Sprintf("GrowSeam the seam %d of the picture %d", k, i)
			if p.Wide == 16 {
				wantNoPicture(t, what+", which is 16 wide")(impl.GrowSeam(p, seam))
				continue
			}
			wantIfFinite(t, what, grown(p, seam))(impl.GrowSeam(p, seam))
		}
	}
	wantNoPicture(t, "GrowSeam with an infinite sum")(impl.GrowSeam(pictureOf(2, 1, max, max), seamOf(0)))
	for what, bad := range badSeams() {
		wantNoPicture(t, "GrowSeam of "+what)(impl.GrowSeam(nine(), bad))
	}
	for what, bad := range badPictures() {
		for _, seam := range [][]int64{nil, {0}, {0, 0}, {1, 1}} {
			wantNoPicture(t, "GrowSeam of "+what)(impl.GrowSeam(bad, seam))
		}
	}
}

func TestCutSeamOfGrownPictures(t *testing.T) {
	for i, p := range allPictures() {
		for k, seam := range seamsOf(p) {
			if p.Wide == 16 {
				continue
			}
			more, _ := impl.GrowSeam(p, seam)
			behind := slices.Clone(seam)
			for y := range behind {
				behind[y]++
			}
			wantPicture(t, fmt.Sprintf("CutSeam behind the grown seam %d of the picture %d", k, i), p)(impl.CutSeam(more, behind))
		}
	}
}

// carved are the pictures that a picture is carved to, up to the first one that has no seam.
func carved(p impl.Picture) []impl.Picture {
	list := []impl.Picture{p}
	for p.Wide > 1 {
		found := seamFor(edgesOf(p))
		if !found.ok {
			break
		}
		p = cut(p, found.seam)
		list = append(list, p)
	}
	return list
}

func TestCarvePicture(t *testing.T) {
	max := num(greatest)
	wantPicture(t, "CarvePicture to the columns that differ", pictureOf(2, 2, 1, 5, 1, 5))(impl.CarvePicture(pictureOf(3, 2, 1, 5, 5, 1, 5, 5), 2))
	for i, p := range slices.Concat(tonePictures(), allPictures(), coarsePictures()) {
		list := carved(p)
		for wide := int64(1); wide <= p.Wide; wide++ {
			what := fmt.Sprintf("CarvePicture of the picture %d to %d", i, wide)
			if cuts := p.Wide - wide; cuts < int64(len(list)) {
				wantPicture(t, what, list[cuts])(impl.CarvePicture(p, wide))
			} else {
				wantNoPicture(t, what)(impl.CarvePicture(p, wide))
			}
		}
		for _, wide := range []int64{math.MinInt64, -1, 0, p.Wide + 1, 17, math.MaxInt64} {
			wantNoPicture(t, fmt.Sprintf("CarvePicture of the picture %d to %d", i, wide))(impl.CarvePicture(p, wide))
		}
	}
	// To its own width, a picture needs no seam.
	far := pictureOf(3, 1, max, 0, -max)
	wantPicture(t, "CarvePicture of infinite edges to its width", far)(impl.CarvePicture(far, 3))
	wantNoPicture(t, "CarvePicture of infinite edges")(impl.CarvePicture(far, 2))
	// What is left when one pixel is cut has no seam.
	later := pictureOf(4, 1, 0.6*max, -0.2*max, 0.1*max, -0.6*max)
	wantPicture(t, "CarvePicture to infinite edges", pictureOf(3, 1, 0.6*max, -0.2*max, -0.6*max))(impl.CarvePicture(later, 3))
	wantNoPicture(t, "CarvePicture behind infinite edges")(impl.CarvePicture(later, 2))
	wantNoPicture(t, "CarvePicture behind infinite edges to 1")(impl.CarvePicture(later, 1))
	for what, bad := range badPictures() {
		for _, wide := range []int64{bad.Wide, 0, 1, 2} {
			wantNoPicture(t, "CarvePicture of "+what)(impl.CarvePicture(bad, wide))
		}
	}
}

// One third of promise 8.
func TestSeamsCostNoMoreThanOthers(t *testing.T) {
	for i, p := range slices.Concat(tonePictures(), allPictures(), coarsePictures()) {
		seam, cost, ok := impl.SeamOf(p)
		if !ok {
			continue
		}
		wantBool(t, fmt.Sprintf("IsSeam SeamOf the picture %d", i), impl.IsSeam(p, seam), true)
		wantSum(t, fmt.Sprintf("SeamCost of SeamOf the picture %d", i), cost, true)(impl.SeamCost(p, seam))
		for x := range p.Wide {
			if other := costOf(p, repeated(x, int(p.High))); other < cost {
				t.Errorf("the picture %d: the column %d costs %v, SeamOf %v", i, x, other, cost)
			}
		}
		if p.Wide*p.High > 25 {
			continue
		}
		eachSeam(p.Wide, p.High, func(seam []int64) {
			if other := costOf(p, seam); other < cost {
				t.Errorf("the picture %d: the seam %v costs %v, SeamOf %v", i, seam, other, cost)
			}
		})
	}
}
