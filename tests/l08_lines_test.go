package tests

import (
	"fmt"
	"maps"
	"slices"
	"strconv"
	"strings"
	"testing"

	"loop.example/g01308/impl"
)

// numberIn is a not-a-number for a word that is no number: all functions that take one fail for it.
func numberIn(word string) float32 {
	if !numberPattern.MatchString(word) {
		return num(nanBits)
	}
	bits, _ := strconv.ParseUint(word, 16, 32)
	return num(uint32(bits))
}

// integerIn is -1 for a word that is no number: all functions that take one fail for it.
func integerIn(word string) int64 {
	if !integerPattern.MatchString(word) {
		return -1
	}
	n, _ := strconv.ParseInt(word, 10, 64)
	if n > 1000000000000000 || n < -1000000000000000 {
		return -1
	}
	return n
}

// answered is an output, or no if a function fails.
func answered(text string, ok bool) string {
	if !ok {
		return "no"
	}
	return text
}

// asked is the output of a line that changes nothing, or the empty text if a line changes something or is none.
func asked(d impl.Desk, form string, word string) string {
	number := func(x float32, ok bool) string { return answered(texted([]float32{x}), ok) }
	switch form {
	case "picture 0":
		return pictureText(d.Now)
	case "curve 0":
		return curveText(d.Curve)
	case "pages 0":
		return pagesText(d.Pages)
	case "mean 0":
		return number(impl.MeanLight(d.Now))
	case "total 0":
		return number(impl.TotalLight(d.Now))
	case "range 0":
		least, greatest, ok := impl.RangeOfPicture(d.Now)
		return answered(texted([]float32{least, greatest}), ok)
	case "quantile 1":
		return number(impl.QuantileOf(d.Now, numberIn(word)))
	case "counts 0":
		counts, ok := impl.ExponentCounts(d.Now)
		return answered(strings.Trim(strings.ReplaceAll(fmt.Sprint(counts), " ", ","), "[]"), ok)
	case "seam 0":
		seam, _, ok := impl.SeamOf(d.Now)
		return answered(strings.Trim(strings.ReplaceAll(fmt.Sprint(seam), " ", ","), "[]"), ok)
	case "code 1":
		isNumber := numberPattern.MatchString(word) && (finite(numberIn(word)) || slices.Contains([]string{"7f800000", "ff800000", "7fc00000"}, word))
		return answered(fmt.Sprint(impl.HalfOf(numberIn(word))), isNumber)
	}
	return ""
}

// pictureNamed is not valid if there is no page with this name.
func pictureNamed(d impl.Desk, name string) impl.Picture {
	for _, page := range d.Pages {
		if page.Name == name {
			return page.Picture
		}
	}
	return impl.Picture{}
}

// drawn is the picture that a line makes; its second result is false if it fails, and its last one if the line makes none.
func drawn(d impl.Desk, form string, words []string) (impl.Picture, bool, bool) {
	p := d.Now
	first, second := words[0], words[1]
	made := func(q impl.Picture, ok bool) (impl.Picture, bool, bool) { return q, ok, true }
	switch form {
	case "picture 1":
		return made(pictureIn(first))
	case "take 1":
		q := pictureNamed(d, first)
		return made(q, len(q.Lights) > 0)
	case "flip 0":
		return made(impl.FlipPicture(p))
	case "turn 0":
		return made(impl.TurnPicture(p))
	case "halved 0":
		return made(impl.HalvedPicture(p))
	case "even 0":
		return made(impl.EvenTone(p))
	case "half 0":
		return made(impl.HalvePicture(p))
	case "curved 0":
		return made(impl.CurvePicture(p, d.Curve))
	case "scale 1":
		return made(impl.ScalePicture(p, numberIn(first)))
	case "power 1":
		return made(impl.PowerPicture(p, numberIn(first)))
	case "sphere 1":
		return made(impl.TurnSphere(p, numberIn(first)))
	case "clip 2":
		return made(impl.ClipPicture(p, numberIn(first), numberIn(second)))
	case "tone 2":
		return made(impl.GlobalTone(p, numberIn(first), numberIn(second)))
	case "box 1":
		return made(impl.BoxMean(p, integerIn(first)))
	case "carve 1":
		return made(impl.CarvePicture(p, integerIn(first)))
	case "guided 2":
		return made(impl.GuidedFilter(p, integerIn(first), numberIn(second)))
	case "sharpen 2":
		return made(impl.SharpenPicture(p, integerIn(first), numberIn(second)))
	case "add 1":
		return made(impl.AddPictures(p, pictureNamed(d, first)))
	case "mix 2":
		return made(impl.MixPictures(p, pictureNamed(d, first), numberIn(second)))
	}
	return impl.Picture{}, false, false
}

// filed are the pages that a line makes, and more as drawn has it.
func filed(d impl.Desk, form string, word string) ([]impl.Page, bool, bool) {
	made := func(list []impl.Page, ok bool) ([]impl.Page, bool, bool) { return list, ok, true }
	switch form {
	case "pages 1":
		return made(pagesIn(word))
	case "keep 1":
		return made(impl.PutPage(d.Pages, pageOf(word, d.Now)))
	case "drop 1":
		return made(impl.DropPage(d.Pages, word))
	}
	return nil, false, false
}

// carriedOut is what becomes of a desk by a line, and its output.
func carriedOut(d impl.Desk, line string) (impl.Desk, string) {
	words := strings.Split(line, " ")
	form := fmt.Sprint(words[0], " ", len(words)-1)
	words = append(words[1:], "", "")
	if output := asked(d, form, words[0]); output != "" {
		return d, output
	}
	if p, ok, isForm := drawn(d, form, words); ok {
		return impl.Desk{Now: p, Curve: d.Curve, Pages: d.Pages}, "ok"
	} else if isForm {
		return d, "no"
	}
	if list, ok, isForm := filed(d, form, words[0]); ok {
		return impl.Desk{Now: d.Now, Curve: d.Curve, Pages: list}, "ok"
	} else if isForm {
		return d, "no"
	}
	if form != "curve 1" {
		return d, "what"
	}
	if c, ok := curveIn(words[0]); ok {
		return impl.Desk{Now: d.Now, Curve: c, Pages: d.Pages}, "ok"
	}
	return d, "no"
}

// forms are the commands, with how many words they have behind them.
func forms() map[string][]int {
	return map[string][]int{
		"picture": {0, 1}, "curve": {0, 1}, "pages": {0, 1}, "keep": {1}, "take": {1}, "drop": {1},
		"flip": {0}, "turn": {0}, "halved": {0}, "even": {0}, "half": {0}, "curved": {0},
		"scale": {1}, "power": {1}, "sphere": {1}, "clip": {2}, "tone": {2}, "box": {1}, "carve": {1},
		"guided": {2}, "sharpen": {2}, "add": {1}, "mix": {2}, "mean": {0}, "total": {0}, "range": {0},
		"quantile": {1}, "counts": {0}, "seam": {0}, "code": {1},
	}
}

func numberWords() []string {
	return []string{
		"00000000", "80000000", "3f800000", "3f000000", "3e800000", "40000000", "bf800000", "41200000", "3eaaaaab", "00000001", "807fffff", "7f7fffff", "ff7fffff",
		"7f800000", "ff800000", "7fc00000", "7f800001", "ffc00000", "ffffffff",
		"", "none", "3f800000,3f800000", "3f800000,", ",3f800000", "3F800000", "3f80000", "03f800000", "3f80000g", "1", "0.5", "3f800000\n", "3f800000\t", "3f800000;",
	}
}

func integerWords() []string {
	return []string{
		"0", "1", "2", "3", "5", "8", "9", "16", "17", "-1", "-0", "00", "01", "+1", "1.0", "1e0", "0x1", "1_0", "1,1", "", "none", "1\n", "\t1", "3f800000",
		"1000000000000000", "1000000000000001", "-1000000000000001", "9223372036854775808", "18446744073709551617", "-9223372036854775807",
	}
}

func nameWords() []string {
	return append(badNames(), "a", "b", "c", "sun", "moon", "none", "zzzzzzzz", "q", "no", "ok", "a\n", "a,b", "a;")
}

func textWords() []string {
	p, c, page := "2,1;3f800000,40000000", "00000000,40800000;00000000,3f800000", "a:1,1;3f800000"
	return []string{
		p, p + ",", "2,1;3f800000", "2,1:3f800000,40000000", "2,1", "2,1;7f800000,40000000", "2,1;7fc00000,40000000", "2,1;80000000,00000001", "02,1;3f800000,40000000",
		c, c + ";", "40800000,00000000;" + c[:17], "00000000;00000000", c[:17], c[:17] + ",7f800000;" + c[:17] + ",00000000", "80000000,00000001;80000000,ff7fffff",
		page, page + "/b:1,1;80000000", page + "/a:1,1;3f800000", "b:1,1;3f800000/" + page, "none", "none:1,1;3f800000", "a:1,1;7f800000", "A:1,1;3f800000", page + "/", "a:none", "",
		p + "\n", "ok", ";", "/", ":", "16,16;" + manyTexts("3f800000", 256),
	}
}

// linesOfAll are lines with words of all kinds, where they are right, and where they are not.
func linesOfAll() []string {
	names := []string{"picture", "curve", "pages", "flip", "turn", "halved", "even", "half", "curved", "mean", "total", "range", "counts", "seam"}
	lines := slices.Clone(names)
	first := func(command string, words []string) {
		for _, word := range words {
			lines = append(lines, command+" "+word)
		}
	}
	both := func(command string, words, others []string) {
		for i, word := range words {
			for k := i % 4; k < len(others); k += 4 {
				lines = append(lines, command+" "+word+" "+others[k])
			}
		}
	}
	for _, command := range []string{"picture", "curve", "pages"} {
		first(command, textWords())
	}
	for _, command := range []string{"keep", "take", "drop", "add"} {
		first(command, nameWords())
	}
	for _, command := range []string{"scale", "power", "sphere", "quantile", "code"} {
		first(command, numberWords())
	}
	for _, command := range []string{"box", "carve"} {
		first(command, integerWords())
	}
	both("clip", numberWords(), numberWords())
	both("tone", numberWords(), numberWords())
	both("guided", integerWords(), numberWords())
	both("sharpen", integerWords(), numberWords())
	both("mix", nameWords(), numberWords())
	for _, good := range []string{"00000000", "3f800000", "3e800000"} {
		lines = append(lines, "mix b "+good, "mix c "+good, "mix a "+good, "mix none "+good, "guided 1 "+good, "guided 8 "+good, "sharpen 1 "+good, "sharpen 8 "+good, "clip bf800000 "+good, "tone "+good+" 40000000")
	}
	return lines
}

// linesOfNone have none of the forms.
func linesOfNone() []string {
	lines := []string{"", " ", "  ", "   ", "what", "no", "ok", "none", "\n", "\x00", "\xff", "ä", "\t", "mean\n", "\nmean", "mean\r", "mean\t", "code\t3f800000", "code\n3f800000", "code,3f800000", "code\u00a03f800000", strings.Repeat(" ", 20000), strings.Repeat("mean", 5000)}
	// In order, so that scripts of these lines are the same in each run.
	for _, name := range slices.Sorted(maps.Keys(forms())) {
		counts := forms()[name]
		lines = append(lines, strings.ToUpper(name), strings.ToUpper(name[:1])+name[1:], name+"s", name[1:], "x"+name, name+"\x00")
		for n := range 6 {
			if slices.Contains(counts, n) {
				continue
			}
			for _, word := range []string{"", "x", "1", "a", "3f800000"} {
				lines = append(lines, name+strings.Repeat(" "+word, n))
			}
		}
		for _, n := range counts {
			for _, word := range []string{"1", "a", "3f800000"} {
				good := name + strings.Repeat(" "+word, n)
				lines = append(lines, " "+good, strings.ToUpper(name)+strings.Repeat(" "+word, n))
				if !slices.Contains(counts, n+1) {
					lines = append(lines, good+" ", strings.Replace(good+" ", " ", "  ", 1))
				}
			}
		}
	}
	return lines
}

// One third of promise 9: each line outputs what the functions tell.
func TestDeskCommand(t *testing.T) {
	lines := linesOfAll()
	for i, d := range desks() {
		step := 1
		if len(d.Now.Lights) > 70 {
			step = 5
		}
		for k := i % step; k < len(lines); k += step {
			want, output := carriedOut(d, lines[k])
			wantRun(t, fmt.Sprintf("DeskCommand %.100q at the desk %d", lines[k], i), want, output)(impl.DeskCommand(d, lines[k]))
		}
	}
}

// The lines of the tests have each output that is possible.
func TestAllOutputsAreTested(t *testing.T) {
	outputs := map[string]map[string]bool{}
	for _, d := range desks() {
		if len(d.Now.Lights) > 16 {
			continue
		}
		for _, line := range linesOfAll() {
			words := strings.Split(line, " ")
			form := fmt.Sprint(words[0], " ", len(words)-1)
			_, output := carriedOut(d, line)
			if outputs[form] == nil {
				outputs[form] = map[string]bool{}
			}
			if output != "no" && output != "what" {
				output = "good"
			}
			outputs[form][output] = true
		}
	}
	// These never fail at a valid desk.
	never := []string{"picture 0", "curve 0", "pages 0", "flip 0", "turn 0", "even 0", "range 0", "counts 0"}
	for name, counts := range forms() {
		for _, n := range counts {
			form := fmt.Sprint(name, " ", n)
			if got := outputs[form]; !got["good"] || got["no"] == slices.Contains(never, form) || got["what"] {
				t.Errorf("the lines %s have the outputs %v", form, got)
			}
		}
	}
}

func TestLinesThatAreNone(t *testing.T) {
	list := desks()
	for _, d := range []impl.Desk{impl.NewDesk(), list[1], list[45], list[len(list)-1]} {
		for _, line := range linesOfNone() {
			wantRun(t, fmt.Sprintf("DeskCommand %.100q", line), d, "what")(impl.DeskCommand(d, line))
		}
	}
}

func TestDeskCommandFails(t *testing.T) {
	for what, bad := range badDesks() {
		for _, line := range []string{"", "mean", "flip", "pages none", "picture 1,1;3f800000", "curve 00000000,40800000;00000000,3f800000", "code 3f800000", "what"} {
			wantNoRun(t, fmt.Sprintf("DeskCommand %q at the desk with %s", line, what))(impl.DeskCommand(bad, line))
		}
	}
}

// deskStep is a line at a new desk, its output, and the picture then.
type deskStep struct {
	line, output string
	now          impl.Picture
}

func TestLinesAtANewDesk(t *testing.T) {
	ramp := pictureOf(4, 2, 0, 1, 2, 3, 0, 1, 2, 3)
	two := func(lights ...float32) impl.Picture {
		return pictureOf(int64(len(lights)), 2, append(slices.Clone(lights), lights...)...)
	}
	steps := []deskStep{
		{"mean", "3fc00000", ramp},
		{"code 3f800000", "15360", ramp},
		{"pages", "none", ramp},
		{"picture", "4,2;00000000,3f800000,40000000,40400000,00000000,3f800000,40000000,40400000", ramp},
		{"curve", "00000000,40800000;00000000,3f800000", ramp},
		{"range", "00000000,40400000", ramp},
		{"quantile 00000000", "00000000", ramp},
		{"quantile 3f000000", "3f800000", ramp},
		{"quantile 3f800000", "40400000", ramp},
		{"quantile 3f800001", "no", ramp},
		{"quantile", "what", ramp},
		{"counts", "2" + strings.Repeat(",0", 23) + ",2,4" + strings.Repeat(",0", 14), ramp},
		{"seam", "0,0", ramp},
		{"code c0000000", "49152", ramp},
		{"code 80000000", "32768", ramp},
		{"code 7fc00000", "32256", ramp},
		{"code ff800000", "64512", ramp},
		{"code 7f7fffff", "31744", ramp},
		{"code 7fc00001", "no", ramp},
		{"code none", "no", ramp},
		{"code 3f800000,3f800000", "no", ramp},
		{"code ", "no", ramp},
		{"code  3f800000", "what", ramp},
		{"flip", "ok", two(3, 2, 1, 0)},
		{"turn", "ok", pictureOf(2, 4, 0, 0, 1, 1, 2, 2, 3, 3)},
		{"halved", "ok", ramp},
		{"half", "ok", pictureOf(2, 1, 0.5, 2.5)},
		{"even", "ok", two(0.125, 0.375, 0.625, 0.875)},
		{"curved", "ok", two(0, 0.25, 0.5, 0.75)},
		{"scale 40000000", "ok", two(0, 2, 4, 6)},
		{"scale bf800000", "ok", two(num(minusZero), -1, -2, -3)},
		{"scale 7f7fffff", "no", ramp},
		{"scale 7f800000", "no", ramp},
		{"power 00000000", "ok", two(0, 1, 1, 1)},
		{"sphere 3e800000", "ok", two(1, 2, 3, 0)},
		{"clip 3f800000 40000000", "ok", two(1, 1, 2, 2)},
		{"clip 40000000 3f800000", "no", ramp},
		{"clip 3f800000", "what", ramp},
		{"clip 3f800000 ", "no", ramp},
		{"clip  3f800000", "no", ramp},
		{"tone 00000000 3f800000", "no", ramp},
		{"tone 3f800000 00000000", "no", ramp},
		{"box 0", "ok", ramp},
		{"box 1", "ok", two(0.5, 1, 2, 2.5)},
		{"box 8", "ok", two(1.5, 1.5, 1.5, 1.5)},
		{"box 9", "no", ramp},
		{"box 01", "no", ramp},
		{"box +1", "no", ramp},
		{"box -1", "no", ramp},
		{"box ", "no", ramp},
		{"box", "what", ramp},
		{"carve 4", "ok", ramp},
		{"carve 3", "ok", two(1, 2, 3)},
		{"carve 0", "no", ramp},
		{"carve 5", "no", ramp},
		{"sharpen 0 3f800000", "ok", ramp},
		{"sharpen 1 3f800000", "ok", two(-0.5, 1, 2, 3.5)},
		{"guided 1 00000000", "no", ramp},
		{"keep sky", "ok", ramp},
		{"keep Sky", "no", ramp},
		{"keep ", "no", ramp},
		{"keep", "what", ramp},
		{"take sky", "no", ramp},
		{"drop sky", "no", ramp},
		{"add sky", "no", ramp},
		{"mix sky 00000000", "no", ramp},
		{"mix  00000000", "no", ramp},
		{"mix 00000000", "what", ramp},
		{"picture 1,1;80000000", "ok", pictureOf(1, 1, num(minusZero))},
		{"picture 1,1;7f800000", "no", ramp},
		{"picture ", "no", ramp},
		{"picture 1,1; 3f800000", "what", ramp},
		{"Mean", "what", ramp},
		{" mean", "what", ramp},
		{"mean ", "what", ramp},
		{"", "what", ramp},
		{" ", "what", ramp},
	}
	for _, s := range steps {
		after, output, ok := impl.DeskCommand(impl.NewDesk(), s.line)
		if output != s.output || !ok || !samePictures(after.Now, s.now) {
			t.Errorf("%q at a new desk: got %v, %q, %v, want %v, %q", s.line, after.Now, output, ok, s.now, s.output)
		}
	}
}

// Pages go through a desk: what is kept is taken, added, mixed and dropped.
func TestPagesAtADesk(t *testing.T) {
	script := strings.Join([]string{"picture 2,1;3f800000,40000000", "keep b", "scale 40000000", "keep a", "pages", "add b", "picture", "mix a 3f000000", "picture", "take b", "picture", "keep a", "pages", "drop b", "pages", "drop b", "take b",
		"pages none:1,1;00000000", "pages", "take none", "picture", "pages none", "pages", "curve bf800000,3f800000;40000000,40800000", "curve", "curved", "picture", "curve none", "curve"}, "\n") + "\n"
	outputs := []string{"ok", "ok", "ok", "ok", "a:2,1;40000000,40800000/b:2,1;3f800000,40000000", "ok", "2,1;40400000,40c00000", "ok", "2,1;40200000,40a00000", "ok", "2,1;3f800000,40000000", "ok",
		"a:2,1;3f800000,40000000/b:2,1;3f800000,40000000", "ok", "a:2,1;3f800000,40000000", "no", "no", "ok", "none:1,1;00000000", "ok", "1,1;00000000", "ok", "none", "ok", "bf800000,3f800000;40000000,40800000", "ok", "1,1;40400000", "no", "bf800000,3f800000;40000000,40800000"}
	want := deskOf(pictureOf(1, 1, 3), curveOf([]float32{-1, 1}, []float32{2, 4}))
	wantRun(t, "RunDesk with pages", want, strings.Join(outputs, "\n")+"\n")(impl.RunDesk(impl.NewDesk(), script))
}

func TestPagesOfAFullDesk(t *testing.T) {
	d := impl.NewDesk()
	for _, letter := range "abcdefgh" {
		after, output, ok := impl.DeskCommand(d, "keep "+string(letter))
		if output != "ok" || !ok {
			t.Fatalf("keep %c: got %q, %v", letter, output, ok)
		}
		d = after
	}
	wantRun(t, "one page more", d, "no")(impl.DeskCommand(d, "keep i"))
	wantRun(t, "a page between", d, "no")(impl.DeskCommand(d, "keep aa"))
	wantRun(t, "a page in place", d, "ok")(impl.DeskCommand(d, "keep h"))
	eight, nine := pagesText(d.Pages), pagesText(d.Pages)+"/i:1,1;00000000"
	wantRun(t, "eight pages", d, "ok")(impl.DeskCommand(d, "pages "+eight))
	wantRun(t, "nine pages", d, "no")(impl.DeskCommand(d, "pages "+nine))
	wantRun(t, "the text of eight pages", d, eight)(impl.DeskCommand(d, "pages"))
	less, output, _ := impl.DeskCommand(d, "drop a")
	if output != "ok" || len(less.Pages) != 7 || less.Pages[0].Name != "b" {
		t.Errorf("drop a: got %q, and %d pages", output, len(less.Pages))
	}
}
