package tests

import (
	"math"
	"slices"
	"testing"

	"loop.example/g01308/impl"
)

// seamCase has arguments for all functions of chapter 7.
type seamCase struct {
	p, q, mask  impl.Picture
	seam, holes []int64
	list        []impl.Page
	page        impl.Page
	bytes       string
}

// memory is all that a case holds, with the unused room behind it.
func (c seamCase) memory() string {
	s := told(whole(c.p.Lights), whole(c.q.Lights), whole(c.mask.Lights), whole(c.seam), whole(c.holes), whole(c.page.Picture.Lights))
	for _, page := range whole(c.list) {
		s += told(page.Name, page.Picture.Wide, page.Picture.High, whole(page.Picture.Lights))
	}
	return s
}

// pictures are the results of all functions of chapter 7 that return pictures, with arguments for which some change nothing.
func (c seamCase) pictures() []impl.Picture {
	var results []impl.Picture
	keep := func(r impl.Picture, _ bool) {
		results = append(results, r)
	}
	keep2 := func(r impl.Picture, _ float32, _ bool) {
		results = append(results, r)
	}
	keep(impl.EdgesOf(c.p))
	keep(impl.CutSeam(c.p, c.seam))
	keep(impl.GrowSeam(c.p, c.seam))
	keep(impl.CarvePicture(c.p, c.p.Wide))
	keep(impl.CarvePicture(c.p, 1))
	keep(impl.MaskMix(c.p, c.q, c.mask))
	keep(impl.MaskMix(c.p, c.p, c.mask))
	keep(impl.MaskMix(c.mask, c.mask, c.mask))
	keep(impl.FeatherMask(c.p.Wide, c.p.High, 1, 2))
	keep2(impl.FillHoles(c.p, nil, 0))
	keep2(impl.FillHoles(c.p, c.holes, 0))
	keep2(impl.FillHoles(c.p, c.holes, 3))
	keep2(impl.GradientBlend(c.p, c.q, nil, 0))
	keep2(impl.GradientBlend(c.p, c.q, c.holes, 0))
	keep2(impl.GradientBlend(c.p, c.p, c.holes, 3))
	keep(impl.JoinPictures(c.p, c.q, 1))
	keep(impl.JoinPictures(c.p, c.q, c.p.Wide))
	keep(impl.JoinPictures(c.p, c.p, c.p.Wide))
	page, _ := impl.LoadPage(c.bytes)
	results = append(results, page.Picture)
	for _, list := range c.albums() {
		for _, page := range list {
			results = append(results, page.Picture)
		}
	}
	return results
}

// albums are the results of all functions that return pages.
func (c seamCase) albums() [][]impl.Page {
	var results [][]impl.Page
	keep := func(r []impl.Page, _ bool) {
		results = append(results, r)
	}
	keep(impl.PutPage(c.list, c.page))
	for _, page := range c.list {
		keep(impl.PutPage(c.list, page))
		keep(impl.DropPage(c.list, page.Name))
	}
	recovered, _, _ := impl.RecoverPages(c.bytes)
	return append(results, recovered)
}

// seams are the results of all functions that return seams.
func (c seamCase) seams() [][]int64 {
	first, _, _ := impl.SeamOf(c.p)
	second, _, _ := impl.MeetSeam(c.p, c.q, 1)
	third, _, _ := impl.MeetSeam(c.p, c.p, c.p.Wide)
	return [][]int64{first, second, third}
}

// results are those of all functions.
func (c seamCase) results() string {
	s := told(impl.IsSeam(c.p, c.seam)) + both(impl.SeamCost(c.p, c.seam)) + told(allOf(impl.SeamOf(c.p))...) + told(allOf(impl.MeetSeam(c.p, c.q, 1))...)
	s += told(allOf(impl.FillHoles(c.p, c.holes, 2))...) + told(allOf(impl.GradientBlend(c.p, c.q, c.holes, 2))...)
	s += both(impl.OverlapError(c.p, c.q, 1)) + told(allOf(impl.BestOverlap(c.p, c.q, 1, min(c.p.Wide, c.q.Wide)))...)
	s += told(impl.ValidPage(c.page), impl.SamePages(c.list, c.list), impl.ArePages(c.list)) + both(impl.FindPage(c.list, c.page.Name)) + both(impl.StorePage(c.page)) + both(impl.StorePages(c.list))
	s += both(impl.LoadPage(c.bytes)) + told(allOf(impl.RecoverPages(c.bytes))...)
	for _, p := range c.pictures() {
		s += told(p)
	}
	for _, list := range c.albums() {
		s += told(list) + ";"
	}
	return s + told(c.seams())
}

// tight is the same case without unused room, in other memory.
func (c seamCase) tight() seamCase {
	clip := func(p impl.Picture) impl.Picture {
		return impl.Picture{Wide: p.Wide, High: p.High, Lights: slices.Clip(slices.Clone(p.Lights))}
	}
	list := slices.Clip(slices.Clone(c.list))
	for i := range list {
		list[i].Picture = clip(list[i].Picture)
	}
	page := pageOf(c.page.Name, clip(c.page.Picture))
	return seamCase{clip(c.p), clip(c.q), clip(c.mask), slices.Clip(slices.Clone(c.seam)), slices.Clip(slices.Clone(c.holes)), list, page, c.bytes}
}

func seamCases() []seamCase {
	var list []seamCase
	lists, pictures := albums(), slices.Concat(tonePictures(), coarsePictures()[:60:60])
	for i, p := range pictures {
		q := pictures[i/3*3]
		if i%2 == 0 || q.Wide != p.Wide || q.High != p.High {
			q = changed(p, func(k int, light float32) float32 { return light / float32(k+1) })
		}
		mask := changed(p, func(k int, _ float32) float32 { return float32(k%5) / 4 })
		seams, holes := seamsOf(p), holeSets(p)
		pages := lists[i%len(lists)]
		page := pageOf([]string{"a", "m", "sun", "abc", "A"}[i%5], p)
		list = append(list, seamCase{p, q, mask, seams[i%len(seams)], holes[i%len(holes)], pages, page, storedAll(pages)})
	}
	return list
}

// badCases have arguments that are not valid.
func badCases() []seamCase {
	var list []seamCase
	p, good := nine(), albumOf(pageOf("a", nine()), pageOf("b", nine()))
	one := seamCase{p, p, p, seamOf(0, 1, 1), holesOf(1, 4), good, pageOf("c", p), storedAll(good)}
	for _, bad := range badPictures() {
		c := one
		c.p, c.page.Picture = bad, bad
		d := one
		d.q, d.mask = bad, bad
		list = append(list, c, d)
	}
	for _, bad := range badSeams() {
		c := one
		c.seam = bad
		list = append(list, c)
	}
	for _, bad := range badHoles() {
		c := one
		c.holes = bad
		list = append(list, c)
	}
	for _, bad := range badAlbums() {
		c := one
		c.list, c.bytes = bad, storedAll(bad)
		list = append(list, c)
	}
	return list
}

func TestSeamsAreNotChanged(t *testing.T) {
	for i, c := range append(seamCases(), badCases()...) {
		before := c.memory()
		first := c.results()
		if c.memory() != before {
			t.Fatalf("the case %d: an argument is changed", i)
		}
		if again := c.results(); again != first {
			t.Fatalf("the case %d: first%s, then%s", i, first, again)
		}
		if got := c.tight().results(); got != first {
			t.Fatalf("the case %d: the capacity is visible", i)
		}
	}
}

// The lists are parts of longer ones, which no function may read or overwrite.
func TestUnusedRoomOfSeamsIsNotChanged(t *testing.T) {
	marks, columns := repeated(num(nanBits), 300), repeated(int64(-1), 30)
	room := func(p impl.Picture) impl.Picture {
		return impl.Picture{Wide: p.Wide, High: p.High, Lights: slices.Concat(p.Lights, marks)[:len(p.Lights)]}
	}
	p, q, mask := room(nine()), room(steps(3, 3, 5, 0.25)), room(pictureOf(3, 3, someLights(9)...))
	pages := slices.Concat(albumOf(pageOf("a", room(nine())), pageOf("c", room(oddPicture()))), repeated(pageOf("b", nine()), 9))[:2]
	c := seamCase{p, q, mask, slices.Concat(seamOf(0, 1, 2), columns)[:3], slices.Concat(holesOf(0, 4, 8), columns)[:3], pages, pageOf("b", room(nine())), storedAll(pages)}
	before := c.memory()
	first := c.results()
	if c.memory() != before {
		t.Error("a list or the room behind it is changed")
	}
	for _, lights := range [][]float32{p.Lights, q.Lights, mask.Lights, pages[0].Picture.Lights, pages[1].Picture.Lights, c.page.Picture.Lights} {
		overwrite(lights[len(lights):], 0.5)
	}
	overwrite(c.seam[3:], 7)
	overwrite(c.holes[3:], 7)
	overwrite(pages[2:], pageOf("z", q))
	if again := c.results(); again != first {
		t.Error("the room behind a list is read")
	}
}

// newMemory overwrites one result after another, and looks for others that have changed.
func newMemory[T any](t *testing.T, what string, c seamCase, results func() [][]T, x T) {
	t.Helper()
	before := c.memory()
	for k := range results() {
		lists := results()
		others := make([]string, len(lists))
		for j, list := range lists {
			others[j] = told(whole(list))
		}
		overwrite(lists[k], x)
		if c.memory() != before {
			t.Fatalf("%s: the result %d shares memory with an argument", what, k)
		}
		for j, list := range lists {
			if j != k && told(whole(list)) != others[j] {
				t.Fatalf("%s: the results %d and %d share memory", what, k, j)
			}
		}
	}
}

func TestSeamsAreNewMemory(t *testing.T) {
	for _, c := range append(seamCases(), badCases()[:6]...) {
		if len(c.p.Lights) > 25 {
			continue
		}
		c.list = albumOf(pageOf("a", pictureOf(2, 1, 1, 2)), pageOf("m", oddPicture()))
		c.bytes = storedAll(c.list)
		newMemory(t, "lights", c, func() [][]float32 {
			var lists [][]float32
			for _, p := range c.pictures() {
				lists = append(lists, p.Lights)
			}
			return lists
		}, -77)
		newMemory(t, "pages", c, c.albums, impl.Page{Name: "x"})
		newMemory(t, "seams", c, c.seams, -77)
	}
}

// Pages of one list that share their lights do not share them in a result.
func TestPagesOfOnePictureAreNewMemory(t *testing.T) {
	p := nine()
	list := albumOf(pageOf("a", p), pageOf("b", p), pageOf("d", p))
	for what, r := range map[string]func() ([]impl.Page, bool){
		"PutPage":             func() ([]impl.Page, bool) { return impl.PutPage(list, pageOf("c", p)) },
		"PutPage in place":    func() ([]impl.Page, bool) { return impl.PutPage(list, pageOf("b", p)) },
		"DropPage":            func() ([]impl.Page, bool) { return impl.DropPage(list, "a") },
		"DropPage of the end": func() ([]impl.Page, bool) { return impl.DropPage(list, "d") },
	} {
		pages, _ := r()
		for k := range pages {
			overwrite(pages[k].Picture.Lights, float32(100+k))
		}
		for k := range pages {
			if pages[k].Picture.Lights[0] != float32(100+k) {
				t.Errorf("%s: two pages share memory", what)
			}
		}
		if told(p) != told(nine()) {
			t.Fatalf("%s: the pages share memory with an argument", what)
		}
	}
}

// ofSeamNumbers are the results of all functions of chapter 7 with numbers.
func ofSeamNumbers(x, y, z float32, n, m, k int64) string {
	p, q, mask := pictureOf(2, 2, x, y, z, 1), pictureOf(2, 2, 0.25, z, 4, x), pictureOf(2, 2, 0, 1, y, 0.5)
	good, page := pictureOf(3, 2, 1, 2, 3, 4, 5, 6), pageOf("b", p)
	list := []impl.Page{pageOf("a", good), page}
	s := both(impl.EdgesOf(p)) + told(allOf(impl.SeamOf(p))...) + told(impl.IsSeam(p, []int64{n, m}), impl.IsSeam(good, []int64{m, k})) + both(impl.SeamCost(p, []int64{n, m})) + both(impl.SeamCost(good, []int64{n, k}))
	s += both(impl.CutSeam(p, []int64{n, m})) + both(impl.CutSeam(good, []int64{n, k})) + both(impl.GrowSeam(p, []int64{n, m})) + both(impl.GrowSeam(good, []int64{n, k})) + both(impl.CarvePicture(p, n)) + both(impl.CarvePicture(good, m))
	s += both(impl.MaskMix(p, q, mask)) + both(impl.MaskMix(q, p, mask)) + both(impl.FeatherMask(n, m, 1, 2)) + both(impl.FeatherMask(5, 2, n, m))
	s += told(allOf(impl.FillHoles(p, []int64{n}, m))...) + told(allOf(impl.FillHoles(good, []int64{n, m}, k))...) + told(allOf(impl.GradientBlend(p, q, []int64{n}, m))...) + told(allOf(impl.GradientBlend(good, good, []int64{n, m}, k))...)
	s += told(allOf(impl.MeetSeam(p, q, n))...) + told(allOf(impl.MeetSeam(good, good, m))...) + both(impl.JoinPictures(p, q, n)) + both(impl.JoinPictures(good, good, m)) + both(impl.OverlapError(p, q, n)) + both(impl.OverlapError(good, good, m))
	s += told(allOf(impl.BestOverlap(p, q, n, m))...) + told(allOf(impl.BestOverlap(good, good, n, m))...)
	s += told(impl.ValidPage(page), impl.SamePages(list, list), impl.ArePages(list)) + both(impl.PutPage(list, page)) + both(impl.PutPage(list[:1], page)) + both(impl.DropPage(list, "a")) + both(impl.FindPage(list, "b"))
	return s + both(impl.StorePage(page)) + both(impl.StorePages(list))
}

func TestFunctionsReturnForAllSeams(t *testing.T) {
	integers := []int64{math.MinInt64, math.MinInt64 + 1, -17, -1, 0, 1, 2, 3, 4, 5, 8, 16, 17, 64, 65, math.MaxInt32, math.MaxInt64 - 1, math.MaxInt64}
	numbers := oddNumbers()
	i := 0
	for _, x := range numbers {
		for _, y := range numbers {
			z := numbers[i*7%len(numbers)]
			n, m, k := integers[i%len(integers)], integers[i/5%len(integers)], integers[i*11%len(integers)]
			first := ofSeamNumbers(x, y, z, n, m, k)
			if again := ofSeamNumbers(x, y, z, n, m, k); again != first {
				t.Fatalf("functions of %v, %v, %v, %d, %d and %d: first%s, then%s", x, y, z, n, m, k, first, again)
			}
			i++
		}
	}
	for _, n := range integers {
		for _, m := range integers {
			for _, k := range integers {
				ofSeamNumbers(1, 0.5, 0.25, n, m, k)
			}
		}
	}
}

func TestSeamsOfAllNotANumbersAreEqual(t *testing.T) {
	with := func(x float32) string {
		return ofSeamNumbers(x, 1, 2, 1, 1, 0) + ofSeamNumbers(1, x, 2, 0, 2, 1) + ofSeamNumbers(1, 2, x, 0, 1, 2)
	}
	first := with(num(nanBits))
	for _, bits := range []uint32{0x7f800001, 0x7fffffff, 0xff800001, 0xffc00000, 0xffffffff} {
		if got := with(num(bits)); got != first {
			t.Errorf("functions of %08x: got%s, want%s", bits, got, first)
		}
	}
}

func TestSeamsOfNilAndEmptyListsAreEqual(t *testing.T) {
	empty := impl.Picture{Lights: []float32{}}
	some := seamCase{empty, empty, empty, []int64{}, []int64{}, []impl.Page{}, impl.Page{Picture: empty}, ""}
	if got, want := some.results(), (seamCase{}).results(); got != want {
		t.Errorf("empty lists: got%s, want%s", got, want)
	}
	p := nine()
	for _, turns := range []int64{0, 1, 64} {
		if got, want := told(allOf(impl.FillHoles(p, []int64{}, turns))...), told(allOf(impl.FillHoles(p, nil, turns))...); got != want {
			t.Errorf("FillHoles of an empty list: got%s, want%s", got, want)
		}
	}
}

// Texts of all kinds are read, or are none; no bytes make a reader panic.
func TestReadersReturnForAllBytes(t *testing.T) {
	seed := uint32(5)
	next := func() byte {
		seed = seed*1664525 + 1013904223
		return byte(seed >> 24)
	}
	for n := range 400 {
		random, marked, named := make([]byte, n), []byte("PIC1"), []byte("PIC1\x02ab")
		for i := range random {
			random[i] = next()
		}
		for _, text := range []string{string(random), string(append(marked, random...)), string(append(named, random...))} {
			first := both(impl.LoadPage(text)) + told(allOf(impl.RecoverPages(text))...)
			if again := both(impl.LoadPage(text)) + told(allOf(impl.RecoverPages(text))...); again != first {
				t.Fatalf("readers of %q: first%s, then%s", text, first, again)
			}
		}
	}
	for wide := range 256 {
		for _, high := range []int{0, 1, 16, 17, 255} {
			for _, more := range []int{0, 1, 4*wide*high + 1, 4*wide*high + 2, 4*wide*high + 3} {
				text := "PIC1\x01a" + string([]byte{byte(wide), byte(high)}) + string(make([]byte, more))
				wantNoPage(t, "LoadPage of zeros")(impl.LoadPage(text))
			}
		}
	}
}
