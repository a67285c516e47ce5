package tests

import (
	"fmt"
	"slices"
	"testing"

	"loop.example/g01308/impl"
)

// told are all bits of a result, so that not-a-numbers are equal and zeros with other signs are not.
func told(results ...any) string {
	s := ""
	for _, r := range results {
		switch x := r.(type) {
		case float32:
			s += fmt.Sprintf(" %08x", rawBits(x))
		case complex64:
			s += fmt.Sprintf(" %08x%08x", rawBits(real(x)), rawBits(imag(x)))
		case []float32:
			for _, y := range x {
				s += told(y)
			}
		case []complex64:
			for _, y := range x {
				s += told(y)
			}
		case impl.Picture:
			s += fmt.Sprintf(" %d by %d:", x.Wide, x.High) + told(x.Lights)
		case []impl.Picture:
			for _, p := range x {
				s += told(p)
			}
		case impl.Page:
			s += fmt.Sprintf(" %q", x.Name) + told(x.Picture)
		case []impl.Page:
			for _, p := range x {
				s += told(p)
			}
		case impl.Color:
			s += " color" + told(x.R, x.G, x.B)
		case impl.Way:
			s += " way" + told(x.X, x.Y, x.Z)
		case impl.Curve:
			s += " x" + told(x.X) + " y" + told(x.Y)
		case impl.Desk:
			s += told(x.Now, x.Curve) + fmt.Sprintf(" %d pages", len(x.Pages)) + told(x.Pages)
		case []string:
			s += fmt.Sprintf(" %q", x)
		case impl.Bracket:
			s += " times" + told(x.Times)
			for _, shot := range x.Shots {
				s += told(shot)
			}
		default:
			s += fmt.Sprintf(" %v", x)
		}
	}
	return s
}

func both[T any](x T, ok bool) string {
	return told(any(x), ok)
}

// ofTwo are the results of all functions of two numbers or fewer.
func ofTwo(x, y float32) string {
	c := complex(x, y)
	s := told(impl.SameNumber(x, y), impl.IsFinite(x), impl.BitsOf(x), impl.NarrowNumber(float64(x)*float64(y)), impl.IsSubnormal(x), impl.FlushNumber(x))
	s += both(impl.FromBits(impl.BitsOf(x) - 5))
	s += told(impl.IsFiniteComplex(c), impl.NarrowComplex(complex(float64(x)*float64(y), float64(y))), impl.ConjugateOf(c), impl.PowerOf(c), impl.LongOf(c))
	s += told(impl.ScaleComplex(c, x), impl.PhasorOf(float64(x)*float64(y)), impl.AngleOf(c), impl.SineTurns(x), impl.AngleTurns(x, y))
	s += both(impl.TenthsOf(x))
	return s + told(impl.RootNumber(x), impl.ExpNumber(x), impl.LogNumber(x))
}

func ofTwoComplex(x, y complex64) string {
	return told(impl.SameComplex(x, y), impl.MulComplex(x, y), impl.QuotientOf(x, y))
}

func ofLists(a, b []float32, c, d []complex64, n []int64) string {
	s := both(impl.SumNumbers(a)) + both(impl.DotNumbers(a, b)) + both(impl.NumbersText(a))
	s += both(impl.SumComplex(c)) + both(impl.DotComplex(c, d)) + both(impl.DotConjugate(c, d)) + both(impl.PowersOf(c)) + both(impl.ComplexText(c))
	return s + both(impl.ListText(n))
}

func ofTexts(s string) string {
	t := both(impl.ReadNumbers(s)) + both(impl.ReadComplex(s)) + both(impl.ReadDecimal(s)) + both(impl.ReadList(s))
	for _, start := range []int64{-1, 0, 65002, 65003} {
		t += both(impl.CheckOf(start, s))
	}
	return t + told(impl.IsName(s), impl.Decimal(int64(len(s))))
}

func TestEqualArgumentsGiveEqualResults(t *testing.T) {
	for _, x := range oddNumbers() {
		for _, y := range oddNumbers() {
			first := ofTwo(x, y)
			if again := ofTwo(x, y); again != first {
				t.Fatalf("functions of %v and %v: first%s, then%s", x, y, first, again)
			}
		}
	}
	for _, s := range []string{"", "none", "3f800000", "3f8000003f800000", "1,2", "-7", "x", "\xff", manyTexts("1", 70)} {
		first := ofTexts(s)
		if again := ofTexts(s); again != first {
			t.Fatalf("functions of %q: first%s, then%s", s, first, again)
		}
	}
}

func TestAllNotANumbersAreOneArgument(t *testing.T) {
	for _, y := range []float32{0, 1, -2.5, num(tiniest), num(infBits)} {
		first, reversed := ofTwo(num(nanBits), y), ofTwo(y, num(nanBits))
		for _, bits := range []uint32{0x7f800001, 0x7fffffff, 0xff800001, 0xffc00000, 0xffffffff} {
			if got := ofTwo(num(bits), y); got != first {
				t.Errorf("functions of %08x and %v: got%s, want%s", bits, y, got, first)
			}
			if got := ofTwo(y, num(bits)); got != reversed {
				t.Errorf("functions of %v and %08x: got%s, want%s", y, bits, got, reversed)
			}
		}
	}
}

func TestFunctionsReturnForAllPairs(t *testing.T) {
	list := oddComplex()
	for i, x := range list {
		for k := i % 7; k < len(list); k += 7 {
			ofTwoComplex(x, list[k])
		}
	}
}

// whole is a list with the unused room behind it.
func whole[T any](list []T) []T {
	return slices.Clone(list[:cap(list)])
}

func TestListsAreNotChanged(t *testing.T) {
	for _, n := range []int{0, 1, 5, 64, 65, 256, 257} {
		a, b := ones(n), ones(n)
		c, d := complexOnes(n), complexOnes(n)
		items := repeated(int64(n), n)
		for i := range a {
			x := oddNumbers()[i%36]
			a[i], c[i], d[i] = x, complex(-x, x), complex(x, 1)
		}
		before := told(whole(a), whole(b), whole(c), whole(d), whole(items))
		first := ofLists(a, b, c, d, items)
		if after := told(whole(a), whole(b), whole(c), whole(d), whole(items)); after != before {
			t.Errorf("lists of %d: an argument is changed", n)
		}
		if again := ofLists(a, b, c, d, items); again != first {
			t.Errorf("lists of %d: first%s, then%s", n, first, again)
		}
		if tight := ofLists(slices.Clip(a), b, slices.Clip(c), slices.Clip(d), items); tight != first {
			t.Errorf("lists of %d: the capacity is visible", n)
		}
	}
	if got, want := ofLists([]float32{}, []float32{}, []complex64{}, []complex64{}, []int64{}), ofLists(nil, nil, nil, nil, nil); got != want {
		t.Errorf("empty lists: got%s, want%s", got, want)
	}
}

func TestOneListAsBothArguments(t *testing.T) {
	a := []float32{1, -2, 3}
	wantSum(t, "DotNumbers of a list with itself", 14, true)(impl.DotNumbers(a, a))
	c := []complex64{complex(1, 2), complex(0, -1)}
	wantComplexSum(t, "DotConjugate of a list with itself", 6, true)(impl.DotConjugate(c, c))
	if told(a, c) != told([]float32{1, -2, 3}, []complex64{complex(1, 2), complex(0, -1)}) {
		t.Error("a list that is both arguments is changed")
	}
}

func overwrite[T any](list []T, x T) {
	list = list[:cap(list)]
	for i := range list {
		list[i] = x
	}
}

func TestResultsAreNewMemory(t *testing.T) {
	numbers, _ := impl.ReadNumbers("3f800000,c0000000")
	other, _ := impl.ReadNumbers("3f800000,c0000000")
	overwrite(numbers, 9)
	again, _ := impl.ReadNumbers("3f800000,c0000000")
	if want := told([]float32{1, -2}); told(other) != want || told(again) != want {
		t.Errorf("ReadNumbers: got%s and%s after a write to a result", told(other), told(again))
	}
	pairs, _ := impl.ReadComplex("3f800000c0000000")
	otherPairs, _ := impl.ReadComplex("3f800000c0000000")
	overwrite(pairs, 9)
	againPairs, _ := impl.ReadComplex("3f800000c0000000")
	if want := told([]complex64{complex(1, -2)}); told(otherPairs) != want || told(againPairs) != want {
		t.Errorf("ReadComplex: got%s and%s after a write to a result", told(otherPairs), told(againPairs))
	}
	items, _ := impl.ReadList("1,-2")
	otherItems, _ := impl.ReadList("1,-2")
	overwrite(items, 9)
	againItems, _ := impl.ReadList("1,-2")
	if want := told([]int64{1, -2}); told(otherItems) != want || told(againItems) != want {
		t.Errorf("ReadList: got%s and%s after a write to a result", told(otherItems), told(againItems))
	}
}
