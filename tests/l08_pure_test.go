package tests

import (
	"fmt"
	"slices"
	"strings"
	"testing"

	"loop.example/g01308/impl"
)

// wholeDesk is all memory of a desk, with the unused room.
func wholeDesk(d impl.Desk) string {
	s := told(d.Now.Wide, d.Now.High, whole(d.Now.Lights)) + wholeCurve(d.Curve)
	for _, page := range whole(d.Pages) {
		s += told(page.Name, page.Picture.Wide, page.Picture.High, whole(page.Picture.Lights))
	}
	return s
}

// tightDesk is the same desk without unused room, in other memory.
func tightDesk(d impl.Desk) impl.Desk {
	clip := func(list []float32) []float32 { return slices.Clip(slices.Clone(list)) }
	tight := impl.Desk{Now: d.Now, Curve: impl.Curve{X: clip(d.Curve.X), Y: clip(d.Curve.Y)}, Pages: slices.Clip(slices.Clone(d.Pages))}
	tight.Now.Lights = clip(d.Now.Lights)
	for i := range tight.Pages {
		tight.Pages[i].Picture.Lights = clip(tight.Pages[i].Picture.Lights)
	}
	return tight
}

// fewLines have each form, with words that a desk of desks can have, and words that are none.
func fewLines() []string {
	return []string{
		"picture", "curve", "pages", "picture 2,1;3f800000,40000000", "picture x", "curve 00000000,40800000;00000000,3f800000", "curve x", "pages none", "pages a:1,1;3f800000/b:1,1;80000000", "pages x",
		"keep a", "keep m", "keep A", "take a", "take b", "take c", "take zz", "drop a", "drop b", "drop zz", "flip", "turn", "halved", "even", "half", "curved",
		"scale 3f800000", "scale 40000000", "power 3f800000", "sphere 00000000", "sphere 3e800000", "clip ff7fffff 7f7fffff", "clip 00000000 3f800000", "tone 3f800000 40000000",
		"box 0", "box 1", "box x", "carve 1", "carve 2", "guided 0 3f800000", "guided 1 3f800000", "sharpen 0 00000000", "sharpen 1 3f800000", "add b", "add c", "mix c 00000000", "mix c 3f000000", "mix b 3f800000",
		"mean", "total", "range", "quantile 3f000000", "counts", "seam", "code 3f800000", "what", "", " ",
	}
}

// resultsAt are the results of all functions with a desk.
func resultsAt(d impl.Desk, line string) string {
	script := line + "\nkeep m\ntake b\n" + line + "\n"
	s := told(allOf(impl.DeskCommand(d, line))...) + told(allOf(impl.RunDesk(d, script))...) + told(allOf(impl.RunJournal(d, journalOf([]string{line, "flip", line})))...)
	s += told(impl.ValidDesk(d), impl.SameDesk(d, d)) + both(impl.PictureText(d.Now)) + both(impl.CurveText(d.Curve)) + both(impl.PagesText(d.Pages))
	return s + both(impl.ReadPicture(pictureText(d.Now))) + both(impl.ReadCurve(curveText(d.Curve))) + both(impl.ReadPages(pagesText(d.Pages)))
}

func smallDesks() []impl.Desk {
	var list []impl.Desk
	for _, d := range desks() {
		if len(d.Now.Lights) <= 9 {
			list = append(list, d)
		}
	}
	return list
}

func TestDesksAreNotChanged(t *testing.T) {
	list := smallDesks()
	for _, bad := range badDesks() {
		list = append(list, bad)
	}
	lines := fewLines()
	for i, d := range list {
		for k := i % 5; k < len(lines); k += 5 {
			before := wholeDesk(d)
			first := resultsAt(d, lines[k])
			if wholeDesk(d) != before {
				t.Fatalf("%q at the desk %d: the desk is changed", lines[k], i)
			}
			if again := resultsAt(d, lines[k]); again != first {
				t.Fatalf("%q at the desk %d: first%s, then%s", lines[k], i, first, again)
			}
			if got := resultsAt(tightDesk(d), lines[k]); got != first {
				t.Fatalf("%q at the desk %d: the capacity is visible", lines[k], i)
			}
		}
	}
}

// The lists of a desk are parts of longer ones, which no function may read or overwrite.
func TestUnusedRoomOfDesksIsNotChanged(t *testing.T) {
	marks := repeated(num(nanBits), 300)
	room := func(list []float32) []float32 { return slices.Concat(list, marks)[:len(list)] }
	lit := func(p impl.Picture) impl.Picture {
		return impl.Picture{Wide: p.Wide, High: p.High, Lights: room(p.Lights)}
	}
	for _, line := range fewLines() {
		pages := slices.Concat(albumOf(pageOf("a", lit(pictureOf(2, 1, 1, 2))), pageOf("b", lit(nine()))), repeated(pageOf("c", nine()), 9))[:2]
		d := impl.Desk{Now: lit(nine()), Curve: impl.Curve{X: room([]float32{0, 9}), Y: room([]float32{1, 2})}, Pages: pages}
		before := wholeDesk(d)
		first := resultsAt(d, line)
		if wholeDesk(d) != before {
			t.Fatalf("%q: the desk or the room behind it is changed", line)
		}
		for _, lights := range [][]float32{d.Now.Lights, d.Curve.X, d.Curve.Y, pages[0].Picture.Lights, pages[1].Picture.Lights} {
			overwrite(lights[len(lights):], 0.5)
		}
		overwrite(pages[2:], pageOf("z", nine()))
		if again := resultsAt(d, line); again != first {
			t.Errorf("%q: the room behind a list is read", line)
		}
	}
}

// numbersAt are all lists of numbers of a desk.
func numbersAt(d impl.Desk) [][]float32 {
	lists := [][]float32{d.Now.Lights, d.Curve.X, d.Curve.Y}
	for _, page := range d.Pages {
		lists = append(lists, page.Picture.Lights)
	}
	return lists
}

// wantNewMemory overwrites one list of results after another, and looks for others that have changed.
func wantNewMemory(t *testing.T, what string, d impl.Desk, results func() []impl.Desk) {
	t.Helper()
	before := wholeDesk(d)
	lists := func() [][]float32 {
		var lists [][]float32
		for _, r := range results() {
			lists = append(lists, numbersAt(r)...)
		}
		return lists
	}
	for k := range lists() {
		all := lists()
		others := make([]string, len(all))
		for j, list := range all {
			others[j] = told(whole(list))
		}
		overwrite(all[k], -77)
		for j, list := range all {
			if j != k && told(whole(list)) != others[j] {
				t.Fatalf("%s: two lists of the results share memory", what)
			}
		}
		if wholeDesk(d) != before {
			t.Fatalf("%s: a result shares memory with the desk", what)
		}
	}
	for k := range results() {
		all := results()
		others := make([]string, len(all))
		for j, r := range all {
			others[j] = told(whole(r.Pages))
		}
		overwrite(all[k].Pages, pageOf("x", impl.Picture{}))
		for j, r := range all {
			if j != k && told(whole(r.Pages)) != others[j] {
				t.Fatalf("%s: the pages of two results share memory", what)
			}
		}
		if wholeDesk(d) != before {
			t.Fatalf("%s: the pages of a result share memory with the desk", what)
		}
	}
}

func TestDesksAreNewMemory(t *testing.T) {
	two := pictureOf(2, 1, 1, 2)
	list := []impl.Desk{
		deskOf(two, curveOf([]float32{0, 4}, []float32{0, 1})),
		deskOf(nine(), curveOf([]float32{0, 4}, []float32{0, 1}), pageOf("a", two), pageOf("b", nine()), pageOf("c", oddPicture())),
	}
	// The parts of one desk can share memory with each other; those of a result do not.
	same, shared := nine(), []float32{0, 4}
	list = append(list, impl.Desk{Now: same, Curve: impl.Curve{X: shared, Y: shared}, Pages: albumOf(pageOf("a", same), pageOf("b", same), pageOf("c", same))})
	for i, d := range list {
		for _, line := range fewLines() {
			what := fmt.Sprintf("%q at the desk %d", line, i)
			journal := journalOf([]string{line, "keep m", "take a", "take m", "add m"})
			wantNewMemory(t, what, d, func() []impl.Desk {
				first, _, _ := impl.DeskCommand(d, line)
				second, _, _ := impl.RunDesk(d, line+"\nkeep m\n"+line+"\ntake m\nkeep n\n")
				third, _, _ := impl.RunJournal(d, journal)
				return []impl.Desk{first, second, third}
			})
		}
		wantNewMemory(t, fmt.Sprintf("scripts without lines at the desk %d", i), d, func() []impl.Desk {
			first, _, _ := impl.RunDesk(d, "")
			second, _, _ := impl.RunJournal(d, "")
			return []impl.Desk{first, second, impl.NewDesk(), impl.NewDesk()}
		})
		wantNewMemory(t, fmt.Sprintf("the texts of the desk %d", i), d, func() []impl.Desk {
			var read []impl.Desk
			for range 2 {
				p, _ := impl.ReadPicture(pictureText(d.Now))
				c, _ := impl.ReadCurve(curveText(d.Curve))
				pages, _ := impl.ReadPages(pagesText(d.Pages))
				read = append(read, impl.Desk{Now: p, Curve: c, Pages: pages})
			}
			return read
		})
	}
}

func TestListsOfLinesAreNotChanged(t *testing.T) {
	for i, lines := range append(journals(), []string{"a", "b\n", "c"}, repeated("", 6000)) {
		room := append(slices.Clone(lines), "one", "two")
		list := room[:len(lines)]
		first := both(impl.JournalOf(list))
		if !slices.Equal(room[:len(lines)], lines) || room[len(lines)] != "one" || room[len(lines)+1] != "two" {
			t.Errorf("JournalOf the lines %d changes them, or the room behind them", i)
		}
		room[len(lines)] = "other"
		if again := both(impl.JournalOf(list)); again != first {
			t.Errorf("JournalOf the lines %d: first %.200s, then %.200s", i, first, again)
		}
		text := journalOf(lines)
		one, _, _ := impl.RecoverJournal(text)
		other, _, _ := impl.RecoverJournal(text)
		before := told(other)
		overwrite(one, "overwritten")
		if third, _, _ := impl.RecoverJournal(text); told(other) != before || told(third) != before {
			t.Errorf("RecoverJournal of the journal %d: results share memory", i)
		}
	}
	if got, want := both(impl.JournalOf([]string{})), both(impl.JournalOf(nil)); got != want {
		t.Errorf("JournalOf an empty list: got%s, want%s", got, want)
	}
}

func TestDesksOfNilAndEmptyListsAreEqual(t *testing.T) {
	nothing := impl.Desk{}
	empty := impl.Desk{Now: impl.Picture{Lights: []float32{}}, Curve: impl.Curve{X: []float32{}, Y: []float32{}}, Pages: []impl.Page{}}
	with, without := impl.NewDesk(), impl.NewDesk()
	with.Pages, without.Pages = []impl.Page{}, nil
	for _, line := range fewLines() {
		if got, want := resultsAt(empty, line), resultsAt(nothing, line); got != want {
			t.Errorf("%q at a desk of empty lists: got%s, want%s", line, got, want)
		}
		if got, want := resultsAt(with, line), resultsAt(without, line); got != want {
			t.Errorf("%q at a desk with an empty list of pages: got%s, want%s", line, got, want)
		}
	}
	wantBool(t, "SameDesk of both", impl.SameDesk(with, without) && impl.SameDesk(nothing, empty), true)
}

func TestDesksOfAllNotANumbersAreEqual(t *testing.T) {
	of := func(x float32) string {
		p, c := pictureOf(2, 1, 1, x), curveOf([]float32{0, 1}, []float32{x, 2})
		good := impl.NewDesk()
		s := ""
		for _, d := range []impl.Desk{deskOf(p, good.Curve), deskOf(good.Now, c), deskOf(good.Now, good.Curve, pageOf("a", p)), deskOf(p, c, pageOf("a", p))} {
			s += resultsAt(d, "mean") + told(impl.SameDesk(d, good), impl.SameDesk(good, d))
		}
		return s
	}
	first := of(num(nanBits))
	for _, bits := range []uint32{0x7f800001, 0x7fffffff, 0xff800001, 0xffc00000, 0xffffffff} {
		if got := of(num(bits)); got != first {
			t.Errorf("desks with %08x: got%s, want%s", bits, got, first)
		}
	}
}

// resultsOfText are the results of all functions of chapter 8 with one text.
func resultsOfText(text string) string {
	d := impl.NewDesk()
	s := both(impl.ReadPicture(text)) + both(impl.ReadCurve(text)) + both(impl.ReadPages(text))
	s += told(allOf(impl.DeskCommand(d, text))...) + told(allOf(impl.RunDesk(d, text))...) + told(allOf(impl.CountOutputs(text))...)
	return s + both(impl.JournalOf([]string{text, text})) + told(allOf(impl.RecoverJournal(text))...) + told(allOf(impl.RunJournal(d, text))...)
}

// Texts of all kinds are read, or are none; no text makes a function panic.
func TestDesksReturnForAllTexts(t *testing.T) {
	seed := uint32(9)
	next := func(below int) int {
		seed = seed*1664525 + 1013904223
		return int(seed>>8) % below
	}
	pieces := slices.Concat(numberWords(), integerWords(), textWords(), nameWords(), []string{" ", " ", " ", "\n", "\n", ";", ":", "/", ",", "\x00", "\xff", "0 ", "234 a\n"})
	for name := range forms() {
		pieces = append(pieces, name)
	}
	slices.Sort(pieces)
	for n := range 3000 {
		var text strings.Builder
		for range next(12) {
			text.WriteString(pieces[next(len(pieces))])
			if next(2) == 0 {
				text.WriteString([]string{" ", "\n", ";"}[next(3)])
			}
		}
		random := make([]byte, n%50)
		for i := range random {
			random[i] = byte(next(256))
		}
		for _, s := range []string{text.String(), string(random), text.String() + "\n"} {
			first := resultsOfText(s)
			if again := resultsOfText(s); again != first {
				t.Fatalf("functions of %q: first%s, then%s", s, first, again)
			}
			after, output := carriedOut(impl.NewDesk(), s)
			wantRun(t, fmt.Sprintf("DeskCommand %q", s), after, output)(impl.DeskCommand(impl.NewDesk(), s))
			wantReadPicture(t, s)
			wantReadCurve(t, s)
			wantReadPages(t, s)
		}
	}
	for _, s := range []string{strings.Repeat(" ", 1000000), strings.Repeat("\n", 1000000), strings.Repeat("/", 1000000), strings.Repeat("picture ", 100000), "picture " + strings.Repeat("1,", 500000), "pages " + strings.Repeat("a:1,1;3f800000/", 50000)} {
		resultsOfText(s)
	}
}
