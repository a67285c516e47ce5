package tests

import (
	"fmt"
	"math"
	"slices"
	"testing"

	"loop.example/g01308/impl"
)

func withoutSign(x float32) float32 { return float32(math.Abs(float64(x))) }

// coarsePictures have all sides, and few lights, so that many pixels, edges and ways are equal.
func coarsePictures() []impl.Picture {
	var list []impl.Picture
	lights := someLights(600)
	for wide := int64(1); wide <= 16; wide++ {
		for high := int64(1); high <= 16; high++ {
			p := pictureOf(wide, high, lights[wide+17*high:][:wide*high]...)
			list = append(list, changed(p, func(_ int, light float32) float32 { return float32(int(light * 3)) }))
		}
	}
	return list
}

// seamTest is what a function with a seam returns.
type seamTest struct {
	seam []int64
	cost float32
	ok   bool
}

func wantSeam(t *testing.T, what string, want seamTest) func([]int64, float32, bool) {
	return func(seam []int64, cost float32, ok bool) {
		t.Helper()
		if !slices.Equal(seam, want.seam) || !same(cost, want.cost) || ok != want.ok {
			t.Errorf("%s: got %v, %v, %v, want %v", what, seam, cost, ok, want)
		}
	}
}

// seamFor asks each pixel for its cost, and goes up from the first least one of the last row.
func seamFor(charges impl.Picture) seamTest {
	wide, high := charges.Wide, charges.High
	known := map[[2]int64]float32{}
	var cost func(x, y int64) float32
	// leastOf returns the first of some columns with the least cost.
	leastOf := func(from, to, y int64) int64 {
		from, to = max(from, 0), min(to, wide-1)
		best := from
		for x := from; x <= to; x++ {
			if cost(x, y) < cost(best, y) {
				best = x
			}
		}
		return best
	}
	cost = func(x, y int64) float32 {
		if _, ok := known[[2]int64{x, y}]; !ok {
			sum := charges.Lights[y*wide+x]
			if y > 0 {
				sum = plus(sum, cost(leastOf(x-1, x+1, y-1), y-1))
			}
			known[[2]int64{x, y}] = sum
		}
		return known[[2]int64{x, y}]
	}
	for i := range charges.Lights {
		if !finite(cost(int64(i)%wide, int64(i)/wide)) {
			return seamTest{}
		}
	}
	x := leastOf(0, wide-1, high-1)
	seam, end := []int64{x}, cost(x, high-1)
	for y := high - 2; y >= 0; y-- {
		x = leastOf(x-1, x+1, y)
		seam = slices.Insert(seam, 0, x)
	}
	return seamTest{seam, end, true}
}

// eachSeam visits all seams of some sides.
func eachSeam(wide, high int64, visit func(seam []int64)) {
	var longer func(seam []int64)
	longer = func(seam []int64) {
		if int64(len(seam)) == high {
			visit(slices.Clone(seam))
			return
		}
		for x := range wide {
			if len(seam) == 0 || apart(x, seam[len(seam)-1]) <= 1 {
				longer(append(slices.Clone(seam), x))
			}
		}
	}
	longer(nil)
}

// seamOf has unused room behind its columns.
func seamOf(columns ...int64) []int64 {
	return append(make([]int64, 0, len(columns)+3), columns...)
}

// seamsOf are seams of a picture: along both edges, across, back, to and fro, and the least one if there is one.
func seamsOf(p impl.Picture) [][]int64 {
	first, last, across, back, turning := seamOf(), seamOf(), seamOf(), seamOf(), seamOf()
	for y := range p.High {
		first = append(first, 0)
		last = append(last, p.Wide-1)
		across = append(across, min(y, p.Wide-1))
		back = append(back, max(p.Wide-1-y, 0))
		turning = append(turning, min(y%2, p.Wide-1))
	}
	list := [][]int64{first, last, across, back, turning}
	if least := seamFor(edgesOf(p)); least.ok {
		list = append(list, seamOf(least.seam...))
	}
	return list
}

// badSeams have just one fault each; they are none of any picture of 3 by 3 pixels.
func badSeams() map[string][]int64 {
	return map[string][]int64{
		"no columns":            {},
		"one column":            seamOf(1),
		"two columns":           seamOf(1, 1),
		"four columns":          seamOf(1, 1, 1, 1),
		"a first column of -1":  seamOf(-1, 0, 0),
		"a last column of -1":   seamOf(0, 0, -1),
		"a first column of 3":   seamOf(3, 2, 2),
		"a last column of 3":    seamOf(2, 2, 3),
		"a first step of 2":     seamOf(0, 2, 2),
		"a last step of 2":      seamOf(0, 0, 2),
		"a first step of -2":    seamOf(2, 0, 0),
		"a last step of -2":     seamOf(2, 2, 0),
		"the least column":      seamOf(0, math.MinInt64, 0),
		"the greatest column":   seamOf(math.MaxInt64, 0, 0),
		"steps that overflow":   seamOf(math.MaxInt64, math.MinInt64, math.MaxInt64),
		"others that overflow":  seamOf(math.MinInt64, math.MaxInt64, math.MinInt64),
		"only greatest columns": seamOf(math.MaxInt64, math.MaxInt64, math.MaxInt64),
		"only least columns":    seamOf(math.MinInt64, math.MinInt64, math.MinInt64),
	}
}

// settleTest is what a function with holes returns.
type settleTest struct {
	p      impl.Picture
	change float32
	ok     bool
}

func wantSettled(t *testing.T, what string, want settleTest) func(impl.Picture, float32, bool) {
	return func(p impl.Picture, change float32, ok bool) {
		t.Helper()
		if ok != want.ok || !same(change, want.change) || told(p) != told(want.p) {
			t.Errorf("%s: got %v, %v, %v, want %v", what, p, change, ok, want)
		}
	}
}

// holesOf has unused room behind its holes.
func holesOf(holes ...int64) []int64 { return seamOf(holes...) }

// holeSets are holes of a picture: none, corners, edges, every second pixel, a block, and all pixels but one.
func holeSets(p impl.Picture) [][]int64 {
	n, wide := int64(len(p.Lights)), p.Wide
	sets := [][]int64{holesOf()}
	keep := func(isHole func(i int64) bool) {
		holes := holesOf()
		for i := range n {
			if isHole(i) {
				holes = append(holes, i)
			}
		}
		if int64(len(holes)) < n {
			sets = append(sets, holes)
		}
	}
	for _, only := range []int64{0, wide - 1, n - wide, n - 1, n / 2} {
		keep(func(i int64) bool { return i == only })
		keep(func(i int64) bool { return i != only })
	}
	keep(func(i int64) bool { return i%2 == 0 })
	keep(func(i int64) bool { return i%3 != 1 })
	keep(func(i int64) bool { return i%wide == 0 || i < wide })
	keep(func(i int64) bool { return i%wide >= wide/2 && i >= n/2 })
	keep(func(i int64) bool { return i%5 == 2 || i%5 == 3 })
	return sets
}

// badHoles are no holes of any picture of 3 by 3 pixels.
func badHoles() map[string][]int64 {
	return map[string][]int64{
		"the hole -1":          holesOf(-1),
		"the hole 9":           holesOf(9),
		"the last hole 9":      holesOf(0, 4, 9),
		"the first hole -1":    holesOf(-1, 0),
		"the least hole":       holesOf(math.MinInt64, 1),
		"the greatest hole":    holesOf(1, math.MaxInt64),
		"a hole twice":         holesOf(4, 4),
		"a first hole twice":   holesOf(0, 0, 4),
		"a last hole twice":    holesOf(0, 8, 8),
		"falling holes":        holesOf(5, 4),
		"falling last holes":   holesOf(1, 5, 4),
		"all pixels":           holesOf(0, 1, 2, 3, 4, 5, 6, 7, 8),
		"all pixels and more":  holesOf(0, 1, 2, 3, 4, 5, 6, 7, 8, 9),
		"nine times one pixel": repeated(int64(3), 9),
	}
}

func badTurns() []int64 {
	return []int64{math.MinInt64, -64, -1, 65, 66, 1000, math.MaxInt64}
}

func pageOf(name string, p impl.Picture) impl.Page { return impl.Page{Name: name, Picture: p} }

// albumOf has unused room behind its pages.
func albumOf(pages ...impl.Page) []impl.Page { return slices.Grow(slices.Clone(pages), 3) }

// oddPicture has lights of all kinds: zeros of both signs, subnormal ones, and the greatest ones.
func oddPicture() impl.Picture {
	return pictureOf(3, 3, 0, num(minusZero), num(tiniest), num(0x80000001), num(0x007fffff), num(greatest), -num(greatest), 1, -0.1)
}

// albums have all numbers of pages, with names of all lengths.
func albums() [][]impl.Page {
	list := [][]impl.Page{albumOf()}
	names := []string{"a", "aa", "ab", "abcdefgh", "b", "moon", "sun", "zzzzzzzz"}
	pictures := append(tonePictures(), oddPicture())
	for n := 1; n <= 8; n++ {
		few, more := albumOf(), albumOf()
		for k := range n {
			few = append(few, pageOf(names[k], pictures[(5*n+k)%20]))
			more = append(more, pageOf(names[8-n+k], pictures[len(pictures)-1-(3*k+n)%9]))
		}
		list = append(list, few, more)
	}
	return list
}

func badNames() []string {
	return []string{"", "abcdefghi", "A", "aB", "a1", "1", "a ", " a", "a\x00", "\x00", "ä", "a/b", "a:b", "`", "{", "\xff", "a\xff"}
}

// badPages have just one fault each.
func badPages() map[string]impl.Page {
	list := map[string]impl.Page{"the zero page": {}}
	for _, name := range badNames() {
		list[fmt.Sprintf("the name %q", name)] = pageOf(name, pictureOf(2, 1, 1, 2))
	}
	for what, p := range badPictures() {
		list[what] = pageOf("m", p)
	}
	return list
}

// badAlbums have just one fault each.
func badAlbums() map[string][]impl.Page {
	p := pictureOf(2, 1, 1, 2)
	nine := albumOf()
	for k := range 9 {
		nine = append(nine, pageOf(string(rune('a'+k)), p))
	}
	list := map[string][]impl.Page{
		"nine pages":          nine,
		"a name twice":        albumOf(pageOf("b", p), pageOf("b", p)),
		"a last name twice":   albumOf(pageOf("a", p), pageOf("b", p), pageOf("b", p)),
		"falling names":       albumOf(pageOf("b", p), pageOf("a", p)),
		"falling last names":  albumOf(pageOf("a", p), pageOf("c", p), pageOf("b", p)),
		"a longer name first": albumOf(pageOf("aa", p), pageOf("a", p)),
		"names by length":     albumOf(pageOf("b", p), pageOf("aa", p)),
	}
	for what, bad := range badPages() {
		list["only "+what] = albumOf(bad)
		list["last, "+what] = albumOf(pageOf("a", p), bad)
		list["first, "+what] = albumOf(bad, pageOf("z", p))
	}
	return list
}

func wantPages(t *testing.T, what string, want []impl.Page) func([]impl.Page, bool) {
	return func(got []impl.Page, ok bool) {
		t.Helper()
		if !ok || len(got) != len(want) || told(got) != told(want) {
			t.Errorf("%s: got %v, %v, want %v", what, got, ok, want)
		}
	}
}
