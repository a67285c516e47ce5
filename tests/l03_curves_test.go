package tests

import (
	"fmt"
	"math"
	"slices"
	"testing"

	"loop.example/g01308/impl"
)

func TestPlanTimes(t *testing.T) {
	for _, first := range []float32{2, 0.3, num(tiniest), 1e-30, 1e30} {
		for _, stops := range []float32{num(tiniest), 0x1p-30, 0.1, 0.5, 1, 1.7, 2, 3} {
			for count := int64(1); count <= 8; count++ {
				var want []float32
				for k := range count {
					want = append(want, times(first, wideExp(times(times(float32(k), stops), 0.6931472))))
				}
				what := fmt.Sprintf("PlanTimes from %v with %v, %d of them", first, stops, count)
				wantList(t, what, want)(impl.PlanTimes(first, stops, count))
			}
		}
	}
	wantList(t, "PlanTimes of one", []float32{num(greatest)})(impl.PlanTimes(num(greatest), num(greatest), 1))
}

func TestPlanTimesFails(t *testing.T) {
	for _, x := range append(notFinite(), 0, num(minusZero), -1, num(0x80000001)) {
		wantNoList[float32](t, fmt.Sprintf("PlanTimes from %v", x))(impl.PlanTimes(x, 1, 2))
		wantNoList[float32](t, fmt.Sprintf("PlanTimes with %v", x))(impl.PlanTimes(1, x, 2))
		wantNoList[float32](t, fmt.Sprintf("PlanTimes of one with %v", x))(impl.PlanTimes(1, x, 1))
	}
	for _, count := range []int64{0, -1, 9, math.MinInt64, math.MaxInt64} {
		wantNoList[float32](t, fmt.Sprintf("PlanTimes of %d", count))(impl.PlanTimes(1, 1, count))
	}
	max := num(greatest)
	for _, c := range []struct {
		first, stops float32
		count        int64
	}{
		{max, 1, 2}, {1, 128, 2}, {1, 60, 4}, {1, max, 2}, {1, max, 8}, {num(tiniest), 300, 2}, {1e30, 5, 8},
	} {
		what := fmt.Sprintf("PlanTimes from %v with %v, %d of them", c.first, c.stops, c.count)
		wantNoList[float32](t, what)(impl.PlanTimes(c.first, c.stops, c.count))
	}
	wantList(t, "PlanTimes that are just finite", []float32{1, wideExp(times(127, 0.6931472))})(impl.PlanTimes(1, 127, 2))
}

// wantedShots is 0 if no number of shots is enough.
func wantedShots(low, high, stops, room float32) int64 {
	wanted := by(narrowLog(by(high, low)), 0.6931472)
	for n := int64(1); n <= 8; n++ {
		if plus(room, times(float32(n-1), stops)) >= wanted {
			return n
		}
	}
	return 0
}

func TestShotsFor(t *testing.T) {
	tiny, max := num(tiniest), num(greatest)
	for _, c := range []struct {
		low, high, stops, room float32
		want                   int64
	}{
		{1, 16, 2, 3, 2},
		{1, 1, 1, 1, 1},
		{1, 1, tiny, tiny, 1},
		{1, 16, 1, 4, 1},
		{1, 16, 1, before(4), 2},
		{1, 256, 1, 1, 8},
		{1, 256, 1, after(1), 8},
		{1, 256, 1, before(1), 0},
		{1, 256, before(1), 1, 0},
		{1, 1000000, 0.25, 1, 0},
		{1, 1e6, 3, 2, 7},
		{tiny, max, 40, 10, 8},
		{tiny, max, max, 1, 0},
		// The quotient is infinite, and so is the sum.
		{tiny, max, max, max, 2},
		{tiny, 1, 149, tiny, 2},
	} {
		what := fmt.Sprintf("ShotsFor %v to %v with %v and %v", c.low, c.high, c.stops, c.room)
		want := wantedShots(c.low, c.high, c.stops, c.room)
		wantInteger(t, what, want, want > 0)(impl.ShotsFor(c.low, c.high, c.stops, c.room))
	}
	wantInteger(t, "ShotsFor of the example", 2, true)(impl.ShotsFor(1, 16, 2, 3))
	wantInteger(t, "ShotsFor of equal lights", 1, true)(impl.ShotsFor(3, 3, 1, tiny))
	wantInteger(t, "ShotsFor of eight", 8, true)(impl.ShotsFor(1, 256, 1, 1.001))
	wantInteger(t, "ShotsFor of nine", 0, false)(impl.ShotsFor(1, 256, 1, 0.9))
}

func TestShotsForRoundsEachOperation(t *testing.T) {
	lights := someLights(60)
	for i := 4; i < len(lights); i++ {
		low, high := min(lights[i], lights[i-1]), 900*max(lights[i], lights[i-1])
		stops, room := 3*lights[i-2], 4*lights[i-3]
		want := wantedShots(low, high, stops, room)
		what := fmt.Sprintf("ShotsFor %v to %v with %v and %v", low, high, stops, room)
		wantInteger(t, what, want, want > 0)(impl.ShotsFor(low, high, stops, room))
	}
	// What is wanted is reached exactly, and missed by one step, for each number of shots.
	for _, high := range []float32{2, 3, 10, 100, 12345, 1e9} {
		wanted := by(narrowLog(high), 0.6931472)
		for n := int64(1); n <= 8; n++ {
			stops := wanted / 16
			room := less(wanted, times(float32(n-1), stops))
			for _, r := range []float32{room, before(room), after(room)} {
				want := wantedShots(1, high, stops, r)
				what := fmt.Sprintf("ShotsFor 1 to %v with %v and %v", high, stops, r)
				wantInteger(t, what, want, want > 0)(impl.ShotsFor(1, high, stops, r))
			}
		}
	}
}

func TestShotsForFails(t *testing.T) {
	for _, x := range append(notFinite(), 0, num(minusZero), -1, num(0x80000001)) {
		what := fmt.Sprintf("ShotsFor with %v as", x)
		wantInteger(t, what+" low", 0, false)(impl.ShotsFor(x, 16, 2, 3))
		wantInteger(t, what+" high", 0, false)(impl.ShotsFor(1, x, 2, 3))
		wantInteger(t, what+" low and high", 0, false)(impl.ShotsFor(x, x, 2, 3))
		wantInteger(t, what+" stops", 0, false)(impl.ShotsFor(1, 16, x, 3))
		wantInteger(t, what+" room", 0, false)(impl.ShotsFor(1, 16, 2, x))
		wantInteger(t, what+" room that is not needed", 0, false)(impl.ShotsFor(1, 1, 2, x))
	}
	wantInteger(t, "ShotsFor downwards", 0, false)(impl.ShotsFor(16, before(16), 2, 3))
}

// curves are valid, with all numbers of values.
func curves() [][]float32 {
	list := [][]float32{{0, 1}, {0, 1, 4}, {-1, 0, num(tiniest), 1e30}, {num(minusZero), 1, 2}, {0x1p-3, 0.3, 0.7}}
	for n := 2; n <= 17; n++ {
		curve := repeated(float32(0), n)
		for k := range curve {
			curve[k] = float32(math.Sqrt(float64(k)+0.3)) - 1
		}
		list = append(list, curve)
	}
	return list
}

func badCurves() map[string][]float32 {
	rising := repeated(float32(0), 18)
	for k := range rising {
		rising[k] = float32(k)
	}
	list := map[string][]float32{
		"no values": {}, "nil": nil, "one value": {1}, "one value with room": repeated(float32(1), 1), "no values with room": repeated(float32(1), 0), "eighteen values": rising, "equal values": {1, 1}, "falling values": {2, 1},
		"equal last values": {0, 1, 2, 2}, "falling last values": {0, 1, 3, 2}, "equal first values": {0, 0, 1}, "two zeros": {num(minusZero), 0, 1}, "two zeros, exchanged": {0, num(minusZero), 1},
	}
	for _, x := range notFinite() {
		list[fmt.Sprintf("the first value %v (%08x)", x, rawBits(x))] = []float32{x, 1, 2}
		list[fmt.Sprintf("the middle value %v (%08x)", x, rawBits(x))] = []float32{0, x, 2}
		list[fmt.Sprintf("the last value %v (%08x)", x, rawBits(x))] = []float32{0, 1, x}
	}
	return list
}

func TestIsBend(t *testing.T) {
	for _, curve := range append(curves(), []float32{1, after(1)}, []float32{-num(greatest), num(greatest)}) {
		wantBool(t, fmt.Sprintf("IsBend %v", curve), impl.IsBend(curve), true)
	}
	for what, bad := range badCurves() {
		wantBool(t, "IsBend of "+what, impl.IsBend(bad), false)
	}
}

func bend(curve []float32, x float32) float32 {
	u := times(x, float32(len(curve)-1))
	i := int(math.Min(math.Floor(float64(u)), float64(len(curve)-2)))
	return plus(curve[i], times(less(u, float32(i)), less(curve[i+1], curve[i])))
}

func TestBendAt(t *testing.T) {
	curve := []float32{0, 1, 4}
	for _, c := range [][2]float32{{0, 0}, {num(minusZero), 0}, {0.25, 0.5}, {0.5, 1}, {0.75, 2.5}, {1, 4}} {
		wantSum(t, fmt.Sprintf("BendAt %v", c[0]), c[1], true)(impl.BendAt(curve, c[0]))
	}
	lights := append(someLights(200), 1, 0.5, before(1), before(0.5), after(0.5), num(tiniest), 0.25, 0.75)
	for _, curve := range curves() {
		for k := range curve {
			lights = append(lights, by(float32(k), float32(len(curve)-1)))
		}
		for _, x := range lights {
			wantSum(t, fmt.Sprintf("BendAt %v of %v", x, curve), bend(curve, x), true)(impl.BendAt(curve, x))
		}
		wantSum(t, "BendAt the first place", curve[0]+0, true)(impl.BendAt(curve, 0))
	}
	// A zero that is added has the sign of x.
	minus := num(minusZero)
	wantSum(t, "BendAt 0 from -0", 0, true)(impl.BendAt([]float32{minus, 1}, 0))
	wantSum(t, "BendAt -0 from -0", minus, true)(impl.BendAt([]float32{minus, 1}, minus))
}

func TestBendAtFails(t *testing.T) {
	curve, max := []float32{0, 1, 4}, num(greatest)
	for _, x := range append(notFinite(), after(1), 2, -1, num(0x80000001)) {
		wantSum(t, fmt.Sprintf("BendAt %v", x), 0, false)(impl.BendAt(curve, x))
	}
	for what, bad := range badCurves() {
		wantSum(t, "BendAt 0 of "+what, 0, false)(impl.BendAt(bad, 0))
		wantSum(t, "BendAt 1 of "+what, 0, false)(impl.BendAt(bad, 1))
		wantSum(t, "BendBack of "+what, 0, false)(impl.BendBack(bad, 1))
		wantNoPicture(t, "BendPicture of "+what)(impl.BendPicture(pictureOf(1, 1, 0.5), bad))
	}
	// The difference of two values can be infinite.
	steep := []float32{-max, max}
	wantSum(t, "BendAt 0 of a steep curve", 0, false)(impl.BendAt(steep, 0))
	wantSum(t, "BendAt 0.5 of a steep curve", 0, false)(impl.BendAt(steep, 0.5))
	wantSum(t, "BendAt 1 of a steep curve", 0, false)(impl.BendAt(steep, 1))
	wantNoPicture(t, "BendPicture of a steep curve")(impl.BendPicture(pictureOf(1, 1, 1), steep))
	half := []float32{-max, 0x1p104, max}
	wantSum(t, "BendAt the steep part", 0, false)(impl.BendAt(half, 0.25))
	wantSum(t, "BendAt the part that is not steep", 0x1p104, true)(impl.BendAt(half, 0.5))
	wantNoPicture(t, "BendPicture of the steep part")(impl.BendPicture(pictureOf(2, 1, 1, 0.25), half))
	wantPicture(t, "BendPicture of the part that is not steep", pictureOf(2, 1, max, 0x1p104))(impl.BendPicture(pictureOf(2, 1, 1, 0.5), half))
}

func backAt(curve []float32, y float32) float32 {
	i := slices.IndexFunc(curve[1:], func(value float32) bool { return y <= value })
	return by(plus(float32(i), by(less(y, curve[i]), less(curve[i+1], curve[i]))), float32(len(curve)-1))
}

func TestBendBack(t *testing.T) {
	curve := []float32{0, 1, 4}
	for _, c := range [][2]float32{{0, 0}, {num(minusZero), 0}, {0.5, 0.25}, {1, 0.5}, {2.5, 0.75}, {4, 1}} {
		wantSum(t, fmt.Sprintf("BendBack %v", c[0]), c[1], true)(impl.BendBack(curve, c[0]))
	}
	for _, curve := range curves() {
		first, last := curve[0], curve[len(curve)-1]
		list := slices.Clone(curve)
		for _, share := range someLights(100) {
			list = append(list, min(last, first+share*(last-first)))
		}
		for _, value := range curve {
			if value > 0 && value > first {
				list = append(list, max(first, before(value)), min(last, after(value)))
			}
		}
		for _, y := range list {
			wantSum(t, fmt.Sprintf("BendBack %v of %v", y, curve), backAt(curve, y), true)(impl.BendBack(curve, y))
		}
		wantSum(t, "BendBack of the first value", 0, true)(impl.BendBack(curve, first))
		wantSum(t, "BendBack of the last value", 1, true)(impl.BendBack(curve, last))
	}
}

// An inner value is the end of the part before it, which can be rounded otherwise than the part behind it.
func TestBendBackTakesTheFirstPart(t *testing.T) {
	max := num(greatest)
	wantSum(t, "BendBack of the end of a steep part", 0, false)(impl.BendBack([]float32{-max, 0x1p104, max}, 0x1p104))
	wantSum(t, "BendBack of the end before a steep part", 0.5, true)(impl.BendBack([]float32{-max, -0x1p104, max}, -0x1p104))
}

func TestBendBackFails(t *testing.T) {
	curve, max := []float32{0.25, 1, 4}, num(greatest)
	for _, y := range append(notFinite(), before(0.25), 0, -1, after(4), 5, max) {
		wantSum(t, fmt.Sprintf("BendBack %v", y), 0, false)(impl.BendBack(curve, y))
	}
	wantSum(t, "BendBack of the last value of a steep curve", 0, false)(impl.BendBack([]float32{-max, max}, max))
	wantSum(t, "BendBack of the first value of a steep curve", 0, true)(impl.BendBack([]float32{-max, max}, -max))
}

func TestBendBackIsTheOppositeOfBendAt(t *testing.T) {
	curve := []float32{-1, 0.5, 0.75, 2, 7}
	for _, x := range someLights(100) {
		y, _ := impl.BendAt(curve, x)
		back, ok := impl.BendBack(curve, y)
		if !ok || math.Abs(float64(back)-float64(x)) > 1e-6 {
			t.Errorf("BendBack of BendAt %v: got %v, %v", x, back, ok)
		}
	}
}

func TestBendPicture(t *testing.T) {
	p := pictureOf(16, 16, someLights(256)...)
	p.Lights[3], p.Lights[4], p.Lights[5] = 1, num(minusZero), 0.5
	for _, curve := range curves() {
		want := pictureOf(16, 16, p.Lights...)
		for i, light := range p.Lights {
			want.Lights[i] = bend(curve, light)
		}
		wantPicture(t, fmt.Sprintf("BendPicture with %v", curve), want)(impl.BendPicture(p, curve))
	}
	for what, bad := range badPictures() {
		wantNoPicture(t, "BendPicture of "+what)(impl.BendPicture(bad, []float32{0, 1}))
	}
	for what, bad := range badShots() {
		wantNoPicture(t, "BendPicture of a picture with "+what)(impl.BendPicture(bad, []float32{0, 1}))
	}
}

func TestPowerOfPair(t *testing.T) {
	tiny, max := num(tiniest), num(greatest)
	for _, c := range [][3]float32{
		{1, 4, 2}, {4, 1, 2}, {1, 4, 0.5}, {1, 1, 2}, {3, 3, 0.1}, {0.1, 0.3, 3}, {0.25, 0.5, 2}, {1, 2, after(1)}, {1, 2, before(1)},
		{1, after(1), 2}, {0x1p-126, 1, 2}, {1, tiny, 2}, {1, max, 2}, {max, 1, 2}, {tiny, tiny, tiny}, {max, max, max}, {2, 3, tiny}, {2, 3, max},
	} {
		want := by(narrowLog(by(c[1], c[0])), narrowLog(c[2]))
		wantSum(t, fmt.Sprintf("PowerOfPair %v", c), want, true)(impl.PowerOfPair(c[0], c[1], c[2]))
	}
	lights := someLights(100)[1:]
	for i := 2; i < len(lights); i++ {
		a, b, ratio := lights[i-2], lights[i-1], 3*lights[i]
		want := by(narrowLog(by(b, a)), narrowLog(ratio))
		wantSum(t, fmt.Sprintf("PowerOfPair %v, %v, %v", a, b, ratio), want, true)(impl.PowerOfPair(a, b, ratio))
	}
}

func TestPowerOfPairFails(t *testing.T) {
	for _, x := range append(notFinite(), 0, num(minusZero), -1, num(0x80000001)) {
		what := fmt.Sprintf("PowerOfPair with %v as", x)
		wantSum(t, what+" a", 0, false)(impl.PowerOfPair(x, 1, 2))
		wantSum(t, what+" b", 0, false)(impl.PowerOfPair(1, x, 2))
		wantSum(t, what+" a and b", 0, false)(impl.PowerOfPair(x, x, 2))
		wantSum(t, what+" ratio", 0, false)(impl.PowerOfPair(1, 2, x))
	}
	tiny, max := num(tiniest), num(greatest)
	wantSum(t, "PowerOfPair with the ratio 1", 0, false)(impl.PowerOfPair(1, 4, 1))
	wantSum(t, "PowerOfPair with the ratio 1 of equal ones", 0, false)(impl.PowerOfPair(3, 3, 1))
	wantSum(t, "PowerOfPair with a quotient of 0", 0, false)(impl.PowerOfPair(max, tiny, 2))
	wantSum(t, "PowerOfPair with an infinite quotient", 0, false)(impl.PowerOfPair(tiny, max, 2))
	wantSum(t, "PowerOfPair with an infinite quotient of 1", 0, false)(impl.PowerOfPair(tiny, 1, 2))
}

// fitted returns what is not finite if there is no power.
func fitted(b impl.Bracket) float32 {
	sum, count := float32(0), 0
	for k := 1; k < len(b.Shots); k++ {
		ratio := narrowLog(by(b.Times[k], b.Times[k-1]))
		for i, next := range b.Shots[k].Lights {
			if level := b.Shots[k-1].Lights[i]; level > 0 && level < 1 && next > 0 && next < 1 {
				sum = plus(sum, by(narrowLog(by(next, level)), ratio))
				count++
			}
		}
	}
	return by(sum, float32(count))
}

func TestFitPower(t *testing.T) {
	for _, b := range exampleBrackets() {
		want, some := fitted(b), true
		if want != want {
			want, some = 0, false
		}
		wantSum(t, fmt.Sprintf("FitPower of %d shots of %d by %d", len(b.Shots), b.Shots[0].Wide, b.Shots[0].High), want, some)(impl.FitPower(b))
	}
	for what, c := range map[string]struct {
		b    impl.Bracket
		want float32
	}{
		"the same light":            {bracketOfPixel([]float32{1, 2}, 0.25, 0.5), 1},
		"a squared light":           {bracketOfPixel([]float32{1, 2}, 0.125, 0.5), 2},
		"a light that falls":        {bracketOfPixel([]float32{1, 2}, 0.5, 0.25), -1},
		"a mean":                    {bracketOf([]float32{1, 2}, pictureOf(2, 1, 0.25, 0.125), pictureOf(2, 1, 0.5, 0.5)), 1.5},
		"one usable pair of two":    {bracketOf([]float32{1, 2}, pictureOf(2, 1, 0, 0.125), pictureOf(2, 1, 0.5, 0.5)), 2},
		"another pair of two":       {bracketOf([]float32{1, 2}, pictureOf(2, 1, 0.5, 0.125), pictureOf(2, 1, 1, 0.5)), 2},
		"a pair behind others":      {bracketOfPixel([]float32{1, 2, 4, 8}, 0.5, 1, 0.25, 0.5), 1},
		"a pair before others":      {bracketOfPixel([]float32{1, 2, 4, 8}, 0.25, 0.5, 1, 1), 1},
		"a ratio that is not 2":     {bracketOfPixel([]float32{1, 4}, 0.25, 0.5), 0.5},
		"an infinite ratio of none": {bracketOfPixel([]float32{num(tiniest), 1, 2}, 0, 0.25, 0.5), 1},
	} {
		if got, ok := impl.FitPower(c.b); !ok || math.Abs(float64(got)-float64(c.want)) > 1e-5 || !same(got, fitted(c.b)) {
			t.Errorf("FitPower of %s: got %v, %v, want %v", what, got, ok, c.want)
		}
	}
}

func TestFitPowerFails(t *testing.T) {
	tiny := num(tiniest)
	for what, b := range map[string]impl.Bracket{
		"one shot":                        bracketOfPixel([]float32{1}, 0.5),
		"readings of 0":                   bracketOfPixel([]float32{1, 2}, 0, 0.5),
		"readings of -0":                  bracketOfPixel([]float32{1, 2}, num(minusZero), 0.5),
		"readings of 1":                   bracketOfPixel([]float32{1, 2}, 0.5, 1),
		"no pair side by side":            bracketOfPixel([]float32{1, 2, 4}, 0.5, 1, 0.5),
		"an infinite ratio":               bracketOfPixel([]float32{tiny, 1, 2}, 0.25, 0.5, 0.5),
		"an infinite ratio in the end":    bracketOfPixel([]float32{tiny, 2 * tiny, 1}, 0.25, 0.5, 0.5),
		"an infinite quotient":            bracketOfPixel([]float32{1, 2}, tiny, 0.5),
		"an infinite quotient in the end": bracketOf([]float32{1, 2, 4}, pictureOf(2, 1, 0.25, 0.5), pictureOf(2, 1, 0.25, tiny), pictureOf(2, 1, 0.5, 0.5)),
		"an infinite quotient at first":   bracketOf([]float32{1, 2, 4}, pictureOf(2, 1, tiny, 0.5), pictureOf(2, 1, 0.25, 0.5), pictureOf(2, 1, 0.5, 0.5)),
	} {
		wantSum(t, "FitPower of "+what, 0, false)(impl.FitPower(b))
	}
	for what, bad := range badBrackets() {
		wantSum(t, "FitPower of "+what, 0, false)(impl.FitPower(bad))
	}
}
