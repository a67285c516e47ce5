package tests

import (
	"fmt"
	"math"
	"testing"

	"loop.example/g01308/impl"
)

func TestGreyOf(t *testing.T) {
	zero, max := num(minusZero), num(greatest)
	wantSum(t, "GreyOf black", 0, true)(impl.GreyOf(impl.Color{}))
	wantSum(t, "GreyOf red", 0.2126, true)(impl.GreyOf(impl.Color{R: 1}))
	wantSum(t, "GreyOf green", 0.7152, true)(impl.GreyOf(impl.Color{G: 1}))
	wantSum(t, "GreyOf blue", 0.0722, true)(impl.GreyOf(impl.Color{B: 1}))
	wantSum(t, "GreyOf -0", zero, true)(impl.GreyOf(impl.Color{R: zero, G: zero, B: zero}))
	wantSum(t, "GreyOf -0, 0 and -0", 0, true)(impl.GreyOf(impl.Color{R: zero, G: 0, B: zero}))
	for _, c := range colors() {
		want := plus(plus(times(0.2126, c.R), times(0.7152, c.G)), times(0.0722, c.B))
		wantSumIfFinite(t, fmt.Sprintf("GreyOf %v", c), want)(impl.GreyOf(c))
	}
	for _, bad := range badColors() {
		wantSum(t, fmt.Sprintf("GreyOf %v", bad), 0, false)(impl.GreyOf(bad))
	}
	grey, ok := impl.GreyOf(impl.Color{R: max, G: max, B: max})
	wantBool(t, "GreyOf the greatest color is finite", finite(grey), true)
	wantBool(t, "GreyOf the greatest color", ok == (grey != 0), true)
}

func TestSameColor(t *testing.T) {
	nan, zero, inf := num(nanBits), num(minusZero), num(infBits)
	c := impl.Color{R: 1, G: 2, B: 3}
	for _, e := range []struct {
		a, b impl.Color
		want bool
	}{
		{c, impl.Color{R: 1, G: 2, B: 3}, true},
		{c, impl.Color{R: 4, G: 2, B: 3}, false},
		{c, impl.Color{R: 1, G: 4, B: 3}, false},
		{c, impl.Color{R: 1, G: 2, B: 4}, false},
		{c, impl.Color{R: 3, G: 2, B: 1}, false},
		{impl.Color{}, impl.Color{}, true},
		{impl.Color{R: zero}, impl.Color{}, false},
		{impl.Color{G: zero}, impl.Color{}, false},
		{impl.Color{B: zero}, impl.Color{}, false},
		{impl.Color{R: zero, G: zero, B: zero}, impl.Color{R: zero, G: zero, B: zero}, true},
		{impl.Color{R: nan, G: nan, B: nan}, impl.Color{R: num(0xffffffff), G: num(0x7f800001), B: num(0xff800001)}, true},
		{impl.Color{R: nan}, impl.Color{}, false},
		{impl.Color{R: inf}, impl.Color{R: inf}, true},
		{impl.Color{B: inf}, impl.Color{B: -inf}, false},
	} {
		wantBool(t, fmt.Sprintf("SameColor %v and %v", e.a, e.b), impl.SameColor(e.a, e.b), e.want)
		wantBool(t, fmt.Sprintf("SameColor %v and %v", e.b, e.a), impl.SameColor(e.b, e.a), e.want)
	}
}

func turnedBy(m []float32, c impl.Color) impl.Color {
	row := func(i int) float32 {
		return plus(plus(times(m[i], c.R), times(m[i+1], c.G)), times(m[i+2], c.B))
	}
	return impl.Color{R: row(0), G: row(3), B: row(6)}
}

func TestTurnColor(t *testing.T) {
	zero, max := num(minusZero), num(greatest)
	c := impl.Color{R: 1, G: 2, B: 4}
	wantColor(t, "TurnColor by the unit", c)(impl.TurnColor(unit(), c))
	wantColor(t, "TurnColor", impl.Color{R: 2, G: 4, B: 1})(impl.TurnColor(kernelOf(0, 1, 0, 0, 0, 1, 1, 0, 0), c))
	wantColor(t, "TurnColor by sums", impl.Color{R: 421, G: 842, B: -4.5})(impl.TurnColor(kernelOf(1, 10, 100, 2, 20, 200, 0.5, -0.5, -1), c))
	// A sum begins with its first product, so that -0 is left where all products are.
	wantColor(t, "TurnColor of -0", impl.Color{R: zero, G: zero, B: zero})(impl.TurnColor(unit(), impl.Color{R: zero, G: zero, B: zero}))
	wantColor(t, "TurnColor by -0", impl.Color{R: zero, G: 0, B: zero})(impl.TurnColor(kernelOf(zero, zero, zero, zero, 0, zero, zero, zero, zero), c))
	// The sums go from left to right.
	wantColor(t, "TurnColor in order", impl.Color{R: 1, G: 0, B: 0})(impl.TurnColor(kernelOf(0x1p30, -0x1p30, 1, 1, 0x1p30, -0x1p30, 0x1p30, 1, -0x1p30), impl.Color{R: 1, G: 1, B: 1}))
	wantNoColor(t, "TurnColor with infinite products")(impl.TurnColor(kernelOf(max, 0, 0, 0, 1, 0, 0, 0, 1), impl.Color{R: 2}))
	wantNoColor(t, "TurnColor with an infinite sum")(impl.TurnColor(kernelOf(1, 0, 0, 0, 1, 0, 0, max, max), impl.Color{G: 1, B: 1}))
	wantNoColor(t, "TurnColor with an infinite sum on the way")(impl.TurnColor(kernelOf(max, max, -max, 0, 1, 0, 0, 0, 1), impl.Color{R: 1, G: 1, B: 1}))
	for _, m := range matrices() {
		for _, c := range colors() {
			wantColorIfFinite(t, fmt.Sprintf("TurnColor %v by %v", c, m), turnedBy(m, c))(impl.TurnColor(m, c))
		}
	}
	for what, bad := range badMatrices() {
		wantNoColor(t, "TurnColor by "+what)(impl.TurnColor(bad, c))
		wantNoColor(t, "TurnColor of black by "+what)(impl.TurnColor(bad, impl.Color{}))
	}
	wantNoColor(t, "TurnColor by nil")(impl.TurnColor(nil, c))
	for _, bad := range badColors() {
		wantNoColor(t, fmt.Sprintf("TurnColor %v", bad))(impl.TurnColor(unit(), bad))
		wantNoColor(t, fmt.Sprintf("TurnColor %v to black", bad))(impl.TurnColor(make([]float32, 9), bad))
	}
}

// joined are the sums of products of rows and columns.
func joined(a, b []float32) []float32 {
	list := make([]float32, 9)
	for i := range 3 {
		for k := range 3 {
			for j := range 3 {
				list[3*i+k] = plus(list[3*i+k], times(a[3*i+j], b[3*j+k]))
			}
		}
	}
	return list
}

func TestJoinMatrices(t *testing.T) {
	zero, max := num(minusZero), num(greatest)
	one, ten := kernelOf(1, 2, 3, 4, 5, 6, 7, 8, 9), kernelOf(1, 0, 0, 0, 10, 0, 0, 0, 100)
	wantNumbers(t, "JoinMatrices with the unit", one...)(impl.JoinMatrices(one, unit()))
	wantNumbers(t, "JoinMatrices of the unit", one...)(impl.JoinMatrices(unit(), one))
	wantNumbers(t, "JoinMatrices: the last one scales rows", 1, 2, 3, 40, 50, 60, 700, 800, 900)(impl.JoinMatrices(ten, one))
	wantNumbers(t, "JoinMatrices: the first one scales columns", 1, 20, 300, 4, 50, 600, 7, 80, 900)(impl.JoinMatrices(one, ten))
	wantNumbers(t, "JoinMatrices with itself", 30, 36, 42, 66, 81, 96, 102, 126, 150)(impl.JoinMatrices(one, one))
	wantNumbers(t, "JoinMatrices of -0: sums begin with +0", make([]float32, 9)...)(impl.JoinMatrices(unit(), repeated(zero, 9)))
	wantNumbers(t, "JoinMatrices in order", 1, 0, 0, 0, 0, 0, 0, 0, 0)(impl.JoinMatrices(
		kernelOf(1, 1, 1, 0, 0, 0, 0, 0, 0), kernelOf(0x1p30, 1, 0x1p30, -0x1p30, 0x1p30, 1, 1, -0x1p30, -0x1p30)))
	for i, a := range matrices() {
		for k, b := range matrices() {
			wantNumbersIfFinite(t, fmt.Sprintf("JoinMatrices %d and %d", i, k), joined(a, b))(impl.JoinMatrices(a, b))
		}
	}
	for what, bad := range badMatrices() {
		wantNoList[float32](t, "JoinMatrices of a bad last one: "+what)(impl.JoinMatrices(bad, unit()))
		wantNoList[float32](t, "JoinMatrices of a bad first one: "+what)(impl.JoinMatrices(unit(), bad))
		wantNoList[float32](t, "JoinMatrices of zeros and a bad one: "+what)(impl.JoinMatrices(make([]float32, 9), bad))
		wantNoList[float32](t, "JoinMatrices of a bad one twice: "+what)(impl.JoinMatrices(bad, bad))
	}
	for at := range 9 {
		m := unit()
		m[at] = max
		wantNoList[float32](t, fmt.Sprintf("JoinMatrices with an infinite number %d", at))(impl.JoinMatrices(m, repeated(float32(2), 9)))
	}
}

// back are the numbers of the matrix that undoes one, and whether it can be undone.
func back(m []float32) ([]float32, bool) {
	cross := func(i, j, k, l int) float32 { return less(times(m[i], m[j]), times(m[k], m[l])) }
	p, q, r := cross(4, 8, 5, 7), cross(5, 6, 3, 8), cross(3, 7, 4, 6)
	s := plus(plus(times(m[0], p), times(m[1], q)), times(m[2], r))
	list := []float32{
		p, cross(2, 7, 1, 8), cross(1, 5, 2, 4),
		q, cross(0, 8, 2, 6), cross(2, 3, 0, 5),
		r, cross(1, 6, 0, 7), cross(0, 4, 1, 3),
	}
	for i, x := range list {
		list[i] = by(x, s)
	}
	return list, s != 0
}

func TestBackMatrix(t *testing.T) {
	zero, tiny := num(minusZero), num(tiniest)
	wantNumbers(t, "BackMatrix of scales", 0.5, 0, 0, 0, 0.25, 0, 0, 0, 0.125)(impl.BackMatrix(kernelOf(2, 0, 0, 0, 4, 0, 0, 0, 8)))
	wantNumbers(t, "BackMatrix of the unit", unit()...)(impl.BackMatrix(unit()))
	wantNumbers(t, "BackMatrix of a turn", 0, 0, 1, 1, 0, 0, 0, 1, 0)(impl.BackMatrix(kernelOf(0, 1, 0, 0, 0, 1, 1, 0, 0)))
	wantNumbers(t, "BackMatrix of small integers", -24, 18, 5, 20, -15, -4, -5, 4, 1)(impl.BackMatrix(kernelOf(1, 2, 3, 0, 1, 4, 5, 6, 0)))
	// The products are infinite, and what is finite is divided by infinity.
	wantNumbers(t, "BackMatrix of great numbers", make([]float32, 9)...)(impl.BackMatrix(kernelOf(1e20, 0, 0, 0, 1e10, 0, 0, 0, 1e10)))
	for i, m := range matrices() {
		want, ok := back(m)
		if ok {
			wantNumbersIfFinite(t, fmt.Sprintf("BackMatrix %d", i), want)(impl.BackMatrix(m))
		} else {
			wantNoList[float32](t, fmt.Sprintf("BackMatrix %d, which has none", i))(impl.BackMatrix(m))
		}
	}
	for what, m := range map[string][]float32{
		"zeros":                                 make([]float32, 9),
		"-0":                                    repeated(zero, 9),
		"-0 in its middle":                      kernelOf(zero, 0, 0, 0, 1, 0, 0, 0, 1),
		"equal rows":                            kernelOf(1, 2, 3, 1, 2, 3, 4, 5, 7),
		"equal columns":                         kernelOf(1, 1, 2, 3, 3, 5, 4, 4, 9),
		"a row of zeros":                        kernelOf(1, 2, 3, 0, 0, 0, 4, 5, 7),
		"rows in a plane":                       kernelOf(1, 2, 3, 4, 5, 6, 7, 8, 9),
		"numbers that are too tiny":             kernelOf(1e-16, 0, 0, 0, 1e-16, 0, 0, 0, 1e-16),
		"a tiny s, so that others are infinite": kernelOf(1, 0, 0, 0, 1, 0, 0, 0, tiny),
		"an s that is a not-a-number":           kernelOf(1, 1, 1, 1e30, 1e30, -1e30, 1e30, 1e30, 1e30),
	} {
		wantNoList[float32](t, "BackMatrix of "+what)(impl.BackMatrix(m))
	}
	for what, bad := range badMatrices() {
		wantNoList[float32](t, "BackMatrix of "+what)(impl.BackMatrix(bad))
	}
	wantNoList[float32](t, "BackMatrix of nil")(impl.BackMatrix(nil))
	// Nearly none: s is as small as the last place of its products, but not 0.
	wantNumbers(t, "BackMatrix of nearly equal rows", 0x1p23+1, -0x1p23, 0, -0x1p23, 0x1p23, 0, 0, 0, 1)(impl.BackMatrix(kernelOf(1, 1, 0, 1, after(1), 0, 0, 0, 1)))
}

func TestBackMatrixUndoes(t *testing.T) {
	for i, m := range matrices() {
		list, ok := impl.BackMatrix(m)
		size := float32(0)
		for k := range list {
			size = max(size, list[k], -list[k], m[k], -m[k])
		}
		if !ok || size > 50 {
			continue
		}
		both, ok := impl.JoinMatrices(list, m)
		for k, x := range both {
			if !ok || math.Abs(float64(x-unit()[k])) > 0.001 {
				t.Errorf("BackMatrix %d: it is joined to %v", i, both)
			}
		}
	}
}

func white(basis []float32, from, to impl.Color) ([]float32, bool) {
	u, v := turnedBy(basis, from), turnedBy(basis, to)
	undo, ok := back(basis)
	scales := []float32{by(v.R, u.R), 0, 0, 0, by(v.G, u.G), 0, 0, 0, by(v.B, u.B)}
	inner := joined(scales, basis)
	fine := allFinite(numbersOf(u)) && allFinite(numbersOf(v)) && allFinite(undo) && allFinite(scales) && allFinite(inner)
	return joined(undo, inner), ok && fine && u.R != 0 && u.G != 0 && u.B != 0
}

func TestWhiteMatrix(t *testing.T) {
	one, c, two := impl.Color{R: 1, G: 1, B: 1}, impl.Color{R: 1, G: 2, B: 4}, impl.Color{R: 2, G: 2, B: 2}
	wantNumbers(t, "WhiteMatrix", 2, 0, 0, 0, 1, 0, 0, 0, 0.5)(impl.WhiteMatrix(unit(), c, two))
	wantNumbers(t, "WhiteMatrix of white", unit()...)(impl.WhiteMatrix(unit(), one, one))
	wantNumbers(t, "WhiteMatrix of another white", unit()...)(impl.WhiteMatrix(kernelOf(2, 0, 0, 0, 4, 0, 0, 0, 8), c, c))
	wantNumbers(t, "WhiteMatrix to black", make([]float32, 9)...)(impl.WhiteMatrix(unit(), one, impl.Color{}))
	// The basis has sums and differences: only the sum is doubled.
	wantNumbers(t, "WhiteMatrix along a basis", 1.5, 0.5, 0, 0.5, 1.5, 0, 0, 0, 1)(impl.WhiteMatrix(
		kernelOf(1, 1, 0, 1, -1, 0, 0, 0, 1), impl.Color{R: 2, G: 1, B: 1}, impl.Color{R: 3.5, G: 2.5, B: 1}))
	for i, basis := range matrices() {
		for k, from := range colors() {
			to := colors()[(i+3*k)%len(colors())]
			what := fmt.Sprintf("WhiteMatrix by %v from %v to %v", basis, from, to)
			if want, ok := white(basis, from, to); ok {
				wantNumbersIfFinite(t, what, want)(impl.WhiteMatrix(basis, from, to))
			} else {
				wantNoList[float32](t, what)(impl.WhiteMatrix(basis, from, to))
			}
		}
	}
}

func TestWhiteMatrixFails(t *testing.T) {
	zero, max := num(minusZero), num(greatest)
	one := impl.Color{R: 1, G: 1, B: 1}
	for _, from := range []impl.Color{{}, {R: 0, G: 1, B: 1}, {R: 1, G: 0, B: 1}, {R: 1, G: 1, B: 0}, {R: zero, G: 1, B: 1}, {R: 1, G: zero, B: 1}, {R: 1, G: 1, B: zero}} {
		wantNoList[float32](t, fmt.Sprintf("WhiteMatrix from %v", from))(impl.WhiteMatrix(unit(), from, one))
		wantNoList[float32](t, fmt.Sprintf("WhiteMatrix from and to %v", from))(impl.WhiteMatrix(unit(), from, from))
	}
	// No number of this color is 0, but one of what the basis makes of it is.
	wantNoList[float32](t, "WhiteMatrix from a color through a basis to 0")(impl.WhiteMatrix(kernelOf(1, 1, 0, 1, -1, 0, 0, 0, 1), one, impl.Color{R: 2, G: 1, B: 1}))
	wantNoList[float32](t, "WhiteMatrix of a basis without a back")(impl.WhiteMatrix(kernelOf(1, 2, 3, 4, 5, 6, 7, 8, 9), one, one))
	wantNoList[float32](t, "WhiteMatrix with an infinite quotient")(impl.WhiteMatrix(unit(), impl.Color{R: num(tiniest), G: 1, B: 1}, one))
	wantNoList[float32](t, "WhiteMatrix from an infinite color")(impl.WhiteMatrix(kernelOf(2, 0, 0, 0, 1, 0, 0, 0, 1), impl.Color{R: max, G: 1, B: 1}, one))
	wantNoList[float32](t, "WhiteMatrix to an infinite color")(impl.WhiteMatrix(kernelOf(2, 0, 0, 0, 1, 0, 0, 0, 1), one, impl.Color{R: max, G: 1, B: 1}))
	for what, bad := range badMatrices() {
		wantNoList[float32](t, "WhiteMatrix of "+what)(impl.WhiteMatrix(bad, one, one))
	}
	for _, bad := range badColors() {
		wantNoList[float32](t, fmt.Sprintf("WhiteMatrix from %v", bad))(impl.WhiteMatrix(unit(), bad, one))
		wantNoList[float32](t, fmt.Sprintf("WhiteMatrix to %v", bad))(impl.WhiteMatrix(unit(), one, bad))
	}
}

func TestWhiteMatrixMakesWhite(t *testing.T) {
	basis := kernelOf(0.4002, 0.7076, -0.0808, -0.2263, 1.1653, 0.0457, 0, 0, 0.9182)
	lights := someLights(90)
	for k := range 30 {
		from := impl.Color{R: 0.2 + lights[k], G: 0.2 + lights[k+30], B: 0.2 + lights[k+60]}
		to := impl.Color{R: 1, G: 1 - lights[k]/5, B: 0.9}
		m, _ := impl.WhiteMatrix(basis, from, to)
		got, ok := impl.TurnColor(m, from)
		for i, x := range numbersOf(got) {
			if !ok || !isNear(x, numbersOf(to)[i], 1e-4) {
				t.Errorf("WhiteMatrix from %v: got %v, want nearly %v", from, got, to)
			}
		}
	}
}
