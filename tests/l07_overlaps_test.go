package tests

import (
	"fmt"
	"math"
	"slices"
	"testing"

	"loop.example/g01308/impl"
)

// missesOf are the squares of the differences where two pictures lie over each other.
func missesOf(a, b impl.Picture, over int64) impl.Picture {
	return fromLights(over, a.High, func(x, y int64) float32 {
		miss := less(a.Lights[(y+1)*a.Wide-over+x], b.Lights[y*b.Wide+x])
		return times(miss, miss)
	})
}

func sewn(a, b impl.Picture, over int64) (impl.Picture, bool) {
	found := seamFor(missesOf(a, b, over))
	if !found.ok || a.Wide+b.Wide-over > 16 {
		return impl.Picture{}, false
	}
	p := impl.Picture{Wide: a.Wide + b.Wide - over, High: a.High}
	for y, x := range found.seam {
		from, to := a.Lights[int64(y)*a.Wide:int64(y+1)*a.Wide], b.Lights[int64(y)*b.Wide:int64(y+1)*b.Wide]
		at := a.Wide - over + x
		middle := by(plus(plus(0, from[at]), to[x]), 2)
		p.Lights = slices.Concat(p.Lights, from[:at], []float32{middle}, to[x+1:])
	}
	return p, allFinite(p.Lights)
}

func overlapError(a, b impl.Picture, over int64) float32 {
	sum, misses := float32(0), missesOf(a, b, over)
	for _, miss := range misses.Lights {
		sum = plus(sum, miss)
	}
	return by(sum, float32(len(misses.Lights)))
}

// pairs are pictures of equal High, with lights of many sizes, and coarse ones.
func pairs() [][2]impl.Picture {
	var list [][2]impl.Picture
	for _, pictures := range [][]impl.Picture{tonePictures(), coarsePictures()[:96], allPictures()[:96]} {
		for i, a := range pictures {
			for k := i % 5; k < len(pictures); k += 5 {
				if b := pictures[k]; a.High == b.High {
					list = append(list, [2]impl.Picture{a, b})
				}
			}
		}
	}
	return list
}

// noOverlaps are pairs that do not lie over each other at all.
func noOverlaps() map[string][2]impl.Picture {
	p := pictureOf(2, 2, 1, 2, 3, 4)
	list := map[string][2]impl.Picture{
		"another High of a":   {pictureOf(2, 1, 1, 2), p},
		"another High of b":   {p, pictureOf(2, 3, 1, 2, 3, 4, 5, 6)},
		"rows and columns":    {pictureOf(4, 1, 1, 2, 3, 4), pictureOf(1, 4, 1, 2, 3, 4)},
		"columns and rows":    {pictureOf(1, 4, 1, 2, 3, 4), pictureOf(4, 1, 1, 2, 3, 4)},
		"equal Wide, no High": {p, pictureOf(2, 1, 1, 2)},
	}
	for what, bad := range badPictures() {
		list["from "+what] = [2]impl.Picture{bad, p}
		list["to "+what] = [2]impl.Picture{p, bad}
		list["from and to "+what] = [2]impl.Picture{bad, bad}
	}
	return list
}

func badOvers(a, b impl.Picture) []int64 {
	return []int64{math.MinInt64, math.MinInt64 + 1, -16, -1, 0, min(a.Wide, b.Wide) + 1, max(a.Wide, b.Wide) + 1, a.Wide + b.Wide, 17, 1 << 32, math.MaxInt64 - 1, math.MaxInt64}
}

func TestMeetSeam(t *testing.T) {
	for _, c := range []struct {
		a, b impl.Picture
		over int64
		want seamTest
	}{
		{pictureOf(2, 1, 1, 2), pictureOf(2, 1, 2, 3), 1, seamTest{[]int64{0}, 0, true}},
		{pictureOf(2, 1, 1, 2), pictureOf(2, 1, 2, 3), 2, seamTest{[]int64{0}, 1, true}},
		{pictureOf(3, 1, 1, 5, 9), pictureOf(2, 1, 7, 9), 2, seamTest{[]int64{1}, 0, true}},
		{pictureOf(2, 1, 5, 9), pictureOf(4, 1, 7, 6, 5, 9), 2, seamTest{[]int64{0}, 4, true}},
		{pictureOf(3, 2, 0, 1, 2, 0, 4, 5), pictureOf(3, 2, 1, 4, 9, 7, 5, 9), 2, seamTest{[]int64{0, 1}, 0, true}},
		{pictureOf(1, 3, 1, 2, 3), pictureOf(1, 3, 2, 4, 6), 1, seamTest{[]int64{0, 0, 0}, 14, true}},
		{pictureOf(1, 1, num(minusZero)), pictureOf(1, 1, 0), 1, seamTest{[]int64{0}, 0, true}},
		{pictureOf(1, 1, 0x1p-75), pictureOf(1, 1, 0), 1, seamTest{[]int64{0}, 0, true}}, // the square is rounded to 0
	} {
		wantSeam(t, fmt.Sprintf("MeetSeam %v and %v over %d", c.a, c.b, c.over), c.want)(impl.MeetSeam(c.a, c.b, c.over))
	}
	for i, c := range pairs() {
		for over := int64(1); over <= min(c[0].Wide, c[1].Wide); over++ {
			wantSeam(t, fmt.Sprintf("MeetSeam the pair %d over %d", i, over), seamFor(missesOf(c[0], c[1], over)))(impl.MeetSeam(c[0], c[1], over))
		}
		for _, over := range badOvers(c[0], c[1]) {
			wantSeam(t, fmt.Sprintf("MeetSeam the pair %d over %d", i, over), seamTest{})(impl.MeetSeam(c[0], c[1], over))
		}
	}
	for what, c := range noOverlaps() {
		for _, over := range []int64{-1, 0, 1, 2, c[0].Wide, c[1].Wide} {
			wantSeam(t, fmt.Sprintf("MeetSeam %s over %d", what, over), seamTest{})(impl.MeetSeam(c[0], c[1], over))
		}
	}
}

func TestJoinPictures(t *testing.T) {
	zero, tiny, max := num(minusZero), num(tiniest), num(greatest)
	for _, c := range []struct {
		a, b impl.Picture
		over int64
		want impl.Picture
	}{
		{pictureOf(2, 1, 1, 2), pictureOf(2, 1, 4, 3), 1, pictureOf(3, 1, 1, 3, 3)},
		{pictureOf(2, 1, 1, 2), pictureOf(2, 1, 4, 3), 2, pictureOf(2, 1, 1, 2.5)},
		{pictureOf(2, 1, 1, 2), pictureOf(1, 1, 4), 1, pictureOf(2, 1, 1, 3)},
		{pictureOf(1, 1, 2), pictureOf(2, 1, 4, 3), 1, pictureOf(2, 1, 3, 3)},
		{pictureOf(4, 1, 1, 2, 3, 4), pictureOf(5, 1, 7, 5, 6, 7, 8), 3, pictureOf(6, 1, 1, 2, 4, 6, 7, 8)},
		{pictureOf(4, 1, 1, 2, 3, 4), pictureOf(5, 1, 7, 5, 4, 7, 8), 3, pictureOf(6, 1, 1, 2, 3, 4, 7, 8)},
		{pictureOf(4, 1, 1, 2, 3, 4), pictureOf(5, 1, 2, 5, 6, 7, 8), 3, pictureOf(6, 1, 1, 2, 5, 6, 7, 8)},
		{pictureOf(3, 2, 1, 2, 3, 4, 5, 6), pictureOf(3, 2, 2, 9, 8, 7, 6, 5), 2, pictureOf(4, 2, 1, 2, 9, 8, 4, 5, 6, 5)},
		{pictureOf(1, 1, zero), pictureOf(1, 1, zero), 1, pictureOf(1, 1, 0)}, // a sum begins with +0
		{pictureOf(2, 1, zero, 1), pictureOf(2, 1, 1, zero), 1, pictureOf(3, 1, zero, 1, zero)},
		{pictureOf(1, 1, tiny), pictureOf(1, 1, 0), 1, pictureOf(1, 1, 0)},
		{pictureOf(1, 1, tiny), pictureOf(1, 1, num(2)), 1, pictureOf(1, 1, num(2))},
		{pictureOf(2, 1, max, 1), pictureOf(2, 1, 1, max), 1, pictureOf(3, 1, max, 1, max)},
		{pictureOf(16, 1, ones(16)...), pictureOf(16, 1, ones(16)...), 16, pictureOf(16, 1, ones(16)...)},
		{pictureOf(16, 1, ones(16)...), pictureOf(1, 1, 1), 1, pictureOf(16, 1, ones(16)...)},
		{pictureOf(9, 1, ones(9)...), pictureOf(8, 1, ones(8)...), 1, pictureOf(16, 1, ones(16)...)},
	} {
		wantPicture(t, fmt.Sprintf("JoinPictures %v and %v over %d", c.a, c.b, c.over), c.want)(impl.JoinPictures(c.a, c.b, c.over))
	}
	for i, c := range pairs() {
		for over := int64(1); over <= min(c[0].Wide, c[1].Wide); over++ {
			what := fmt.Sprintf("JoinPictures the pair %d over %d", i, over)
			if want, ok := sewn(c[0], c[1], over); ok {
				wantPicture(t, what, want)(impl.JoinPictures(c[0], c[1], over))
			} else {
				wantNoPicture(t, what)(impl.JoinPictures(c[0], c[1], over))
			}
		}
		for _, over := range badOvers(c[0], c[1]) {
			wantNoPicture(t, fmt.Sprintf("JoinPictures the pair %d over %d", i, over))(impl.JoinPictures(c[0], c[1], over))
		}
	}
}

func TestJoinPicturesFails(t *testing.T) {
	max := num(greatest)
	wantNoPicture(t, "JoinPictures to 17 columns")(impl.JoinPictures(pictureOf(9, 1, ones(9)...), pictureOf(9, 1, ones(9)...), 1))
	wantNoPicture(t, "JoinPictures to 31 columns")(impl.JoinPictures(pictureOf(16, 1, ones(16)...), pictureOf(16, 1, ones(16)...), 1))
	wantNoPicture(t, "JoinPictures with an infinite sum")(impl.JoinPictures(pictureOf(1, 1, max), pictureOf(1, 1, max), 1))
	wantNoPicture(t, "JoinPictures with an infinite square")(impl.JoinPictures(pictureOf(3, 1, 0, 1, max), pictureOf(3, 1, 0, 1, 0), 3))
	wantPicture(t, "JoinPictures beside infinite sums", pictureOf(3, 1, 1, max, max))(impl.JoinPictures(pictureOf(3, 1, 1, max, max), pictureOf(3, 1, 1, max, max), 3))
	for what, c := range noOverlaps() {
		for _, over := range []int64{-1, 0, 1, 2, c[0].Wide, c[1].Wide} {
			wantNoPicture(t, fmt.Sprintf("JoinPictures %s over %d", what, over))(impl.JoinPictures(c[0], c[1], over))
		}
	}
}

func TestOverlapError(t *testing.T) {
	max := num(greatest)
	wantSum(t, "OverlapError over 2", 5, true)(impl.OverlapError(pictureOf(2, 1, 1, 2), pictureOf(2, 1, 4, 3), 2))
	wantSum(t, "OverlapError over 1", 4, true)(impl.OverlapError(pictureOf(2, 1, 1, 2), pictureOf(2, 1, 4, 3), 1))
	wantSum(t, "OverlapError of zeros", 0, true)(impl.OverlapError(pictureOf(1, 1, num(minusZero)), pictureOf(1, 1, 0), 1))
	wantSum(t, "OverlapError of two rows", 2.5, true)(impl.OverlapError(pictureOf(2, 2, 9, 1, 9, 2), pictureOf(3, 2, 2, 9, 9, 4, 9, 9), 1))
	// The sum goes row by row: a 1 that comes right behind 0x1p24 is lost, and behind 0x1p24 + 2 it counts twice, once.
	root := float32(0x1p12)
	wantSum(t, "OverlapError with a great end", by(0x1p24+4, 6), true)(impl.OverlapError(pictureOf(2, 3, 1, 1, 1, 1, 0, root), pictureOf(2, 3, 0, 0, 0, 0, 0, 0), 2))
	wantSum(t, "OverlapError with a great beginning", by(0x1p24, 6), true)(impl.OverlapError(pictureOf(2, 3, root, 1, 1, 1, 1, 0), pictureOf(2, 3, 0, 0, 0, 0, 0, 0), 2))
	wantSum(t, "OverlapError with a great middle", by(0x1p24+4, 6), true)(impl.OverlapError(pictureOf(2, 3, 1, 1, root, 1, 1, 0), pictureOf(2, 3, 0, 0, 0, 0, 0, 0), 2))
	for i, c := range pairs() {
		for over := int64(1); over <= min(c[0].Wide, c[1].Wide); over++ {
			wantSumIfFinite(t, fmt.Sprintf("OverlapError of the pair %d over %d", i, over), overlapError(c[0], c[1], over))(impl.OverlapError(c[0], c[1], over))
		}
		for _, over := range badOvers(c[0], c[1]) {
			wantSum(t, fmt.Sprintf("OverlapError of the pair %d over %d", i, over), 0, false)(impl.OverlapError(c[0], c[1], over))
		}
	}
	wantSum(t, "OverlapError with an infinite sum", 0, false)(impl.OverlapError(pictureOf(2, 1, 1.4e19, 1.4e19), pictureOf(2, 1, 0, 0), 2))
	wantSum(t, "OverlapError with an infinite square", 0, false)(impl.OverlapError(pictureOf(2, 1, 1.9e19, 0), pictureOf(2, 1, 0, 0), 2))
	wantSum(t, "OverlapError with an infinite difference", 0, false)(impl.OverlapError(pictureOf(2, 1, 0, max), pictureOf(2, 1, -max, 0), 1))
	wantSum(t, "OverlapError beside an infinite difference", 0, true)(impl.OverlapError(pictureOf(2, 1, max, 0), pictureOf(2, 1, 0, -max), 1))
	for what, c := range noOverlaps() {
		for _, over := range []int64{-1, 0, 1, 2, c[0].Wide, c[1].Wide} {
			wantSum(t, fmt.Sprintf("OverlapError %s over %d", what, over), 0, false)(impl.OverlapError(c[0], c[1], over))
		}
	}
}

// overlapTest is what BestOverlap returns.
type overlapTest struct {
	over int64
	miss float32
	ok   bool
}

func wantOverlap(t *testing.T, what string, want overlapTest) func(int64, float32, bool) {
	return func(over int64, miss float32, ok bool) {
		t.Helper()
		if over != want.over || !same(miss, want.miss) || ok != want.ok {
			t.Errorf("%s: got %d, %v, %v, want %v", what, over, miss, ok, want)
		}
	}
}

func bestOverlap(a, b impl.Picture, least, most int64) overlapTest {
	best := overlapTest{miss: num(infBits)}
	for over := most; over >= least; over-- {
		if miss := overlapError(a, b, over); miss <= best.miss {
			best = overlapTest{over, miss, finite(miss)}
		}
	}
	if !best.ok {
		return overlapTest{}
	}
	return best
}

func TestBestOverlap(t *testing.T) {
	for _, c := range []struct {
		a, b        impl.Picture
		least, most int64
		want        overlapTest
	}{
		{pictureOf(2, 1, 1, 2), pictureOf(2, 1, 2, 3), 1, 2, overlapTest{1, 0, true}},
		{pictureOf(2, 1, 1, 2), pictureOf(2, 1, 2, 3), 2, 2, overlapTest{2, 1, true}},
		{pictureOf(3, 1, 1, 2, 3), pictureOf(4, 1, 2, 3, 4, 5), 1, 3, overlapTest{2, 0, true}},
		// Several overlaps of the same error: the first one.
		{pictureOf(3, 1, 1, 1, 1), pictureOf(3, 1, 1, 1, 1), 1, 3, overlapTest{1, 0, true}},
		{pictureOf(3, 1, 1, 1, 1), pictureOf(3, 1, 1, 1, 1), 2, 3, overlapTest{2, 0, true}},
		{pictureOf(4, 1, 5, 1, 2, 1), pictureOf(4, 1, 2, 1, 2, 1), 1, 4, overlapTest{2, 0, true}},
		{pictureOf(4, 1, 2, 1, 2, 1), pictureOf(4, 1, 2, 1, 2, 1), 1, 4, overlapTest{2, 0, true}},
		{pictureOf(4, 1, 2, 1, 2, 1), pictureOf(4, 1, 2, 1, 2, 1), 3, 4, overlapTest{4, 0, true}},
		{pictureOf(4, 1, 2, 1, 2, 1), pictureOf(4, 1, 2, 1, 2, 1), 3, 3, overlapTest{3, 1, true}},
		{pictureOf(1, 1, 3), pictureOf(1, 1, 5), 1, 1, overlapTest{1, 4, true}},
	} {
		what := fmt.Sprintf("BestOverlap of %v and %v from %d to %d", c.a, c.b, c.least, c.most)
		wantOverlap(t, what, c.want)(impl.BestOverlap(c.a, c.b, c.least, c.most))
	}
	for i, c := range pairs() {
		room := min(c[0].Wide, c[1].Wide)
		for least := int64(1); least <= room; least += 1 + int64(i)%3 {
			for most := least; most <= room; most += 1 + int64(i)%2 {
				what := fmt.Sprintf("BestOverlap of the pair %d from %d to %d", i, least, most)
				wantOverlap(t, what, bestOverlap(c[0], c[1], least, most))(impl.BestOverlap(c[0], c[1], least, most))
			}
		}
		for _, bad := range badOvers(c[0], c[1]) {
			wantOverlap(t, fmt.Sprintf("BestOverlap of the pair %d from %d", i, bad), overlapTest{})(impl.BestOverlap(c[0], c[1], bad, room))
			wantOverlap(t, fmt.Sprintf("BestOverlap of the pair %d to %d", i, bad), overlapTest{})(impl.BestOverlap(c[0], c[1], 1, bad))
			wantOverlap(t, fmt.Sprintf("BestOverlap of the pair %d from and to %d", i, bad), overlapTest{})(impl.BestOverlap(c[0], c[1], bad, bad))
		}
		wantOverlap(t, fmt.Sprintf("BestOverlap of the pair %d from all to 1 less", i), overlapTest{})(impl.BestOverlap(c[0], c[1], room, room-1))
	}
	for what, c := range noOverlaps() {
		for _, over := range []int64{-1, 0, 1, 2, c[0].Wide, c[1].Wide} {
			wantOverlap(t, fmt.Sprintf("BestOverlap of %s from %d", what, over), overlapTest{})(impl.BestOverlap(c[0], c[1], over, 2))
			wantOverlap(t, fmt.Sprintf("BestOverlap of %s to %d", what, over), overlapTest{})(impl.BestOverlap(c[0], c[1], 1, over))
		}
		wantOverlap(t, "BestOverlap of "+what+" to all", overlapTest{})(impl.BestOverlap(c[0], c[1], 1, math.MaxInt64))
	}
}

// An infinite error is not the least one where another one is finite; BestOverlap fails where all are infinite.
func TestBestOverlapOfInfiniteErrors(t *testing.T) {
	far, max := float32(1.9e19), num(greatest)
	a, b := pictureOf(3, 1, 1, far, 2), pictureOf(3, 1, 2, 5, far)
	c := pictureOf(2, 1, 1, far)
	d := pictureOf(2, 1, -max, max)
	e, f := pictureOf(2, 1, 1.4e19, 1.4e19), pictureOf(2, 1, 0, 0)
	g, h := pictureOf(4, 1, far, 1, 2, far), pictureOf(4, 1, 1, 2, far, 5)
	for _, test := range []struct {
		what        string
		a, b        impl.Picture
		least, most int64
		want        overlapTest
	}{
		{"with a finite error only", a, b, 1, 1, overlapTest{1, 0, true}},
		{"with an infinite last error", a, b, 1, 2, overlapTest{1, 0, true}},
		{"with infinite last errors", a, b, 1, 3, overlapTest{1, 0, true}},
		{"with an infinite error only", a, b, 2, 2, overlapTest{}},
		{"with infinite errors only", a, b, 2, 3, overlapTest{}},
		{"with an infinite first error", c, c, 1, 2, overlapTest{2, 0, true}},
		{"with an infinite first difference", d, d, 1, 2, overlapTest{2, 0, true}},
		{"with an infinite difference only", d, d, 1, 1, overlapTest{}},
		{"with an infinite sum", e, f, 1, 2, overlapTest{1, times(1.4e19, 1.4e19), true}},
		{"with an infinite sum only", e, f, 2, 2, overlapTest{}},
		{"with infinite errors on both sides", g, h, 1, 4, overlapTest{3, 0, true}},
		{"with infinite errors before", g, h, 1, 3, overlapTest{3, 0, true}},
		{"with an infinite error behind", g, h, 3, 4, overlapTest{3, 0, true}},
		{"with two infinite first errors", g, h, 1, 2, overlapTest{}},
		{"from 0 on", a, b, 0, 1, overlapTest{}},
		{"over a column too many", c, c, 1, 3, overlapTest{}},
	} {
		wantOverlap(t, "BestOverlap "+test.what, test.want)(impl.BestOverlap(test.a, test.b, test.least, test.most))
	}
}

// One third of promise 8: parts that were cut out of a picture, and lie over each other, are joined to it.
func TestCutPicturesAreJoinedAgain(t *testing.T) {
	for i, p := range slices.Concat(allPictures(), coarsePictures()) {
		for right := int64(1); right <= p.Wide; right += 1 + int64(i%3) {
			for over := int64(1); over <= right; over += 1 + int64(i%2) {
				a, ok := impl.CropPicture(p, 0, 0, right, p.High)
				b, too := impl.CropPicture(p, right-over, 0, p.Wide-right+over, p.High)
				if !ok || !too {
					t.Fatalf("the picture %d is not cut", i)
				}
				what := fmt.Sprintf("JoinPictures of the picture %d from %d on, over %d", i, right, over)
				wantPicture(t, what, p)(impl.JoinPictures(a, b, over))
				wantSum(t, "OverlapError, "+what, 0, true)(impl.OverlapError(a, b, over))
			}
		}
	}
}

// Where a picture has no equal parts, its pieces fit in one way only.
func TestBestOverlapOfCutPictures(t *testing.T) {
	for i, p := range allPictures() {
		if p.Wide < 3 {
			continue
		}
		for over := int64(1); over <= p.Wide-2; over++ {
			a, _ := impl.CropPicture(p, 0, 0, p.Wide-1, p.High)
			b, _ := impl.CropPicture(p, p.Wide-1-over, 0, over+1, p.High)
			what := fmt.Sprintf("BestOverlap of the picture %d, cut over %d", i, over)
			wantOverlap(t, what, overlapTest{over, 0, true})(impl.BestOverlap(a, b, 1, over+1))
		}
	}
}
