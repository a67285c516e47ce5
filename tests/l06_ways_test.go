package tests

import (
	"fmt"
	"math"
	"testing"

	"loop.example/g01308/impl"
)

func TestLimitsOfSpheres(t *testing.T) {
	if impl.MaxFace != 8 {
		t.Error("a limit is not as the document says")
	}
}

func TestIsWay(t *testing.T) {
	for _, w := range ways() {
		wantBool(t, fmt.Sprintf("IsWay %v", w), impl.IsWay(w), true)
	}
	for _, bad := range badWays() {
		wantBool(t, fmt.Sprintf("IsWay %v", bad), impl.IsWay(bad), false)
	}
}

func TestSameWay(t *testing.T) {
	nan, zero, inf := num(nanBits), num(minusZero), num(infBits)
	w := impl.Way{X: 1, Y: 2, Z: 3}
	for _, c := range []struct {
		a, b impl.Way
		want bool
	}{
		{w, impl.Way{X: 1, Y: 2, Z: 3}, true},
		{w, impl.Way{X: 4, Y: 2, Z: 3}, false},
		{w, impl.Way{X: 1, Y: 4, Z: 3}, false},
		{w, impl.Way{X: 1, Y: 2, Z: 4}, false},
		{w, impl.Way{X: 3, Y: 2, Z: 1}, false},
		{impl.Way{}, impl.Way{}, true},
		{impl.Way{X: zero}, impl.Way{}, false},
		{impl.Way{Y: zero}, impl.Way{}, false},
		{impl.Way{Z: zero}, impl.Way{}, false},
		{impl.Way{X: zero, Y: zero, Z: zero}, impl.Way{X: zero, Y: zero, Z: zero}, true},
		{impl.Way{X: nan, Y: nan, Z: nan}, impl.Way{X: num(0xffffffff), Y: num(0x7f800001), Z: num(0xff800001)}, true},
		{impl.Way{X: nan}, impl.Way{}, false},
		{impl.Way{Y: inf}, impl.Way{Y: inf}, true},
		{impl.Way{Z: inf}, impl.Way{Z: -inf}, false},
	} {
		wantBool(t, fmt.Sprintf("SameWay %v and %v", c.a, c.b), impl.SameWay(c.a, c.b), c.want)
		wantBool(t, fmt.Sprintf("SameWay %v and %v", c.b, c.a), impl.SameWay(c.b, c.a), c.want)
	}
}

func inner(a, b impl.Way) float32 {
	return plus(plus(times(a.X, b.X), times(a.Y, b.Y)), times(a.Z, b.Z))
}

func TestInnerOf(t *testing.T) {
	zero, max := num(minusZero), num(greatest)
	for _, c := range []struct {
		a, b impl.Way
		want float32
	}{
		{impl.Way{X: 1, Y: 2, Z: 3}, impl.Way{X: 10, Y: 100, Z: 1000}, 3210},
		{impl.Way{X: 1}, impl.Way{Y: 1}, 0},
		{impl.Way{X: 2, Y: 1, Z: -1}, impl.Way{X: 2, Y: 1, Z: -1}, 6},
		// The sum begins with its first product, so that -0 is left where all products are.
		{impl.Way{X: 1, Y: zero, Z: zero}, impl.Way{X: zero, Y: 1, Z: 1}, zero},
		{impl.Way{X: 1, Y: 0, Z: zero}, impl.Way{X: zero, Y: 1, Z: 1}, 0},
		// It goes from left to right.
		{impl.Way{X: 0x1p30, Y: -0x1p30, Z: 1}, impl.Way{X: 1, Y: 1, Z: 1}, 1},
		{impl.Way{X: 1, Y: 0x1p30, Z: -0x1p30}, impl.Way{X: 1, Y: 1, Z: 1}, 0},
		{impl.Way{X: 0x1p30, Y: 1, Z: -0x1p30}, impl.Way{X: 1, Y: 1, Z: 1}, 0},
		// Products are rounded before they are added.
		{impl.Way{X: after(1), Y: 1}, impl.Way{X: after(1), Y: -1 - 0x1p-22}, 0},
		{impl.Way{X: -1 - 0x1p-22, Y: after(1)}, impl.Way{X: 1, Y: after(1)}, 0},
		{impl.Way{X: -1 - 0x1p-22, Z: after(1)}, impl.Way{X: 1, Z: after(1)}, 0},
		{impl.Way{X: num(tiniest)}, impl.Way{X: 0.5}, 0},
		{impl.Way{X: max}, impl.Way{X: 1}, max},
	} {
		wantSum(t, fmt.Sprintf("InnerOf %v and %v", c.a, c.b), c.want, true)(impl.InnerOf(c.a, c.b))
	}
	list := ways()
	for i, a := range list {
		for k := i % 41; k < len(list); k += 41 {
			wantSumIfFinite(t, fmt.Sprintf("InnerOf %v and %v", a, list[k]), inner(a, list[k]))(impl.InnerOf(a, list[k]))
		}
		wantSumIfFinite(t, fmt.Sprintf("InnerOf %v and itself", a), inner(a, a))(impl.InnerOf(a, a))
	}
	for _, bad := range badWays() {
		wantSum(t, fmt.Sprintf("InnerOf %v and 1", bad), 0, false)(impl.InnerOf(bad, impl.Way{X: 1, Y: 1, Z: 1}))
		wantSum(t, fmt.Sprintf("InnerOf 1 and %v", bad), 0, false)(impl.InnerOf(impl.Way{X: 1, Y: 1, Z: 1}, bad))
		wantSum(t, fmt.Sprintf("InnerOf %v and itself", bad), 0, false)(impl.InnerOf(bad, bad))
	}
	wantSum(t, "InnerOf infinite products", 0, false)(impl.InnerOf(impl.Way{X: max}, impl.Way{X: 2}))
	wantSum(t, "InnerOf an infinite sum on the way", 0, false)(impl.InnerOf(impl.Way{X: max, Y: max, Z: -max}, impl.Way{X: 1, Y: 1, Z: 1}))
}

func unitOf(w impl.Way) impl.Way {
	long := root(inner(w, w))
	return impl.Way{X: by(w.X, long), Y: by(w.Y, long), Z: by(w.Z, long)}
}

func TestUnitWay(t *testing.T) {
	zero := num(minusZero)
	for _, c := range []struct{ w, want impl.Way }{
		{impl.Way{X: 3, Y: 4}, impl.Way{X: 0.6, Y: 0.8}},
		{impl.Way{X: 2, Y: -4, Z: 4}, impl.Way{X: by(2, 6), Y: by(-4, 6), Z: by(4, 6)}},
		{impl.Way{Z: -3}, impl.Way{Z: -1}},
		{impl.Way{X: zero, Y: 7, Z: zero}, impl.Way{X: zero, Y: 1, Z: zero}},
		{impl.Way{X: -5, Y: zero}, impl.Way{X: -1, Y: zero}},
		{impl.Way{X: 1e-15}, impl.Way{X: 1}},
		// The square of the first of these is the least number, so that its root is far from it; the other is the greatest one with a square.
		{impl.Way{X: after(0x1p-75)}, impl.Way{X: by(after(0x1p-75), root(num(tiniest)))}},
		{impl.Way{Y: before(0x1p64)}, impl.Way{Y: 1}},
	} {
		wantWay(t, fmt.Sprintf("UnitWay %v", c.w), c.want)(impl.UnitWay(c.w))
	}
	for _, w := range ways() {
		wantWayIfFit(t, fmt.Sprintf("UnitWay %v", w), unitOf(w))(impl.UnitWay(w))
	}
	for _, bad := range badWays() {
		wantNoWay(t, fmt.Sprintf("UnitWay %v", bad))(impl.UnitWay(bad))
	}
	max, tiny := num(greatest), num(tiniest)
	for _, w := range []impl.Way{
		{X: 0x1p64}, {Y: -0x1p64}, {Z: max}, {X: before(0x1p64), Y: before(0x1p64)}, {X: max, Y: max, Z: max}, {X: 1e20, Y: 1}, // whose root is infinite
		{X: tiny}, {Y: -tiny}, {Z: 0x1p-75}, {X: 0x1p-75, Y: 0x1p-75, Z: -0x1p-75}, {X: 0x1p-126}, // whose root is 0
	} {
		wantNoWay(t, fmt.Sprintf("UnitWay %v", w))(impl.UnitWay(w))
	}
}

func TestUnitWaysAreNearlyOneLong(t *testing.T) {
	for _, w := range fewWays() {
		unit, ok := impl.UnitWay(w)
		long := math.Hypot(math.Hypot(float64(unit.X), float64(unit.Y)), float64(unit.Z))
		if !ok || math.Abs(long-1) > 1e-6 {
			t.Errorf("UnitWay %v: got %v, %v, which is %v long", w, unit, ok, long)
		}
	}
}

// turnedTest are both parts of a pair that is turned.
func turnedTest(a, b, turn float32) (float32, float32) {
	c, s := cosine(turn), sine(turn)
	return less(times(c, a), times(s, b)), plus(times(s, a), times(c, b))
}

func turnedWay(w impl.Way, turn float32) impl.Way {
	w.X, w.Y = turnedTest(w.X, w.Y, turn)
	return w
}

func tiltedWay(w impl.Way, turn float32) impl.Way {
	w.Y, w.Z = turnedTest(w.Y, w.Z, turn)
	return w
}

func TestTurnAndTiltWay(t *testing.T) {
	zero := num(minusZero)
	w := impl.Way{X: 1, Y: 2, Z: 3}
	wantWay(t, "TurnWay by 0", w)(impl.TurnWay(w, 0))
	wantWay(t, "TiltWay by 0", w)(impl.TiltWay(w, 0))
	// Half a turn has the sine -0, and a quarter of one the cosine -0.
	wantWay(t, "TurnWay by a quarter", impl.Way{X: -2, Y: 1, Z: 3})(impl.TurnWay(w, 0.25))
	wantWay(t, "TiltWay by a quarter", impl.Way{X: 1, Y: -3, Z: 2})(impl.TiltWay(w, 0.25))
	wantWay(t, "TurnWay by a half", impl.Way{X: -1, Y: -2, Z: 3})(impl.TurnWay(w, 0.5))
	wantWay(t, "TiltWay by a half", impl.Way{X: 1, Y: -2, Z: -3})(impl.TiltWay(w, 0.5))
	wantWay(t, "TurnWay back by a quarter", impl.Way{X: 2, Y: -1, Z: 3})(impl.TurnWay(w, -0.25))
	wantWay(t, "TiltWay back by a quarter", impl.Way{X: 1, Y: 3, Z: -2})(impl.TiltWay(w, -0.25))
	wantWay(t, "TurnWay by a whole turn", w)(impl.TurnWay(w, 1))
	wantWay(t, "TiltWay by a whole turn", w)(impl.TiltWay(w, -1))
	// What does not turn is kept as it is, also its sign.
	wantWay(t, "TurnWay of the way up", impl.Way{Z: 1})(impl.TurnWay(impl.Way{Z: 1}, 0))
	wantWay(t, "TurnWay with Z of -0", impl.Way{X: 0, Y: 1, Z: zero})(impl.TurnWay(impl.Way{X: 0, Y: 1, Z: zero}, 0))
	wantWay(t, "TiltWay with X of -0", impl.Way{X: zero, Y: 0, Z: 1})(impl.TiltWay(impl.Way{X: zero, Y: 0, Z: 1}, 0))
	// Of two products of -0, the difference is 0, and the sum is -0.
	wantWay(t, "TurnWay of -0", impl.Way{X: 0, Y: zero, Z: 1})(impl.TurnWay(impl.Way{X: zero, Y: zero, Z: 1}, 0))
	for _, turn := range turns() {
		for i, w := range append(fewWays(), ways()...) {
			if i > 200 && i%7 != 3 {
				continue
			}
			wantWayIfFit(t, fmt.Sprintf("TurnWay %v by %v", w, turn), turnedWay(w, turn))(impl.TurnWay(w, turn))
			wantWayIfFit(t, fmt.Sprintf("TiltWay %v by %v", w, turn), tiltedWay(w, turn))(impl.TiltWay(w, turn))
		}
	}
}

func TestTurnAndTiltWayFail(t *testing.T) {
	for _, bad := range badWays() {
		for _, turn := range turns() {
			wantNoWay(t, fmt.Sprintf("TurnWay %v by %v", bad, turn))(impl.TurnWay(bad, turn))
			wantNoWay(t, fmt.Sprintf("TiltWay %v by %v", bad, turn))(impl.TiltWay(bad, turn))
		}
	}
	for _, turn := range notFinite() {
		for _, w := range fewWays() {
			wantNoWay(t, fmt.Sprintf("TurnWay %v by %v", w, turn))(impl.TurnWay(w, turn))
			wantNoWay(t, fmt.Sprintf("TiltWay %v by %v", w, turn))(impl.TiltWay(w, turn))
		}
	}
	// Very many turns have the sine and the cosine 0, so that nothing is left of these ways.
	wantNoWay(t, "TurnWay of a flat way by very many turns")(impl.TurnWay(impl.Way{X: 1, Y: -2}, 0x1p52))
	wantNoWay(t, "TiltWay of a way along X by very many turns")(impl.TiltWay(impl.Way{Y: 1, Z: -2}, -0x1p52))
	wantWay(t, "TurnWay by very many turns", impl.Way{Z: 3})(impl.TurnWay(impl.Way{X: 1, Y: 1, Z: 3}, 0x1p52))
	wantWay(t, "TiltWay by very many turns", impl.Way{X: 3})(impl.TiltWay(impl.Way{X: 3, Y: 1, Z: 1}, num(greatest)))
	max := num(greatest)
	wantNoWay(t, "TurnWay with an infinite part")(impl.TurnWay(impl.Way{X: max, Y: max}, 0.125))
	wantNoWay(t, "TurnWay with an infinite first part")(impl.TurnWay(impl.Way{X: max, Y: -max}, 0.125))
	wantNoWay(t, "TiltWay with an infinite part")(impl.TiltWay(impl.Way{Y: max, Z: max}, 0.125))
	wantNoWay(t, "TiltWay with an infinite first part")(impl.TiltWay(impl.Way{Y: max, Z: -max}, 0.125))
}
