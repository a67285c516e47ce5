package tests

import (
	"fmt"
	"regexp"
	"slices"
	"strconv"
	"strings"
	"testing"

	"loop.example/g01308/impl"
)

// deskOf has unused room behind all of its lists.
func deskOf(now impl.Picture, c impl.Curve, pages ...impl.Page) impl.Desk {
	return impl.Desk{Now: now, Curve: c, Pages: albumOf(pages...)}
}

// desks are valid, with pictures of many sides, curves with all numbers of knots, and all numbers of pages.
func desks() []impl.Desk {
	var list []impl.Desk
	curves, lists, lit := toneCurves(), albums(), litPictures()
	for i, p := range append(tonePictures(), oddPicture(), nine(), pictureOf(1, 1, 0)) {
		list = append(list, deskOf(p, curves[i%len(curves)], lists[i%len(lists)]...))
	}
	// The pages b, c and n have the sides of the picture: with them, it can be added or mixed.
	for i, p := range lit {
		half := changed(p, func(k int, light float32) float32 { return light / float32(k%3+2) })
		same := pictureOf(p.Wide, p.High, p.Lights...)
		pages := albumOf(pageOf("a", lit[(i+5)%len(lit)]), pageOf("b", half), pageOf("c", same), pageOf("none", half))
		list = append(list, deskOf(p, curves[(3*i)%len(curves)], pages...))
	}
	// Sums of these lights, and what the curve draws between its knots, are infinite.
	far := num(greatest)
	return append(list, deskOf(pictureOf(2, 2, far, far, 1, 1), curveOf([]float32{0, 4}, []float32{-far, far}), pageOf("b", pictureOf(2, 2, far, far, far, far))))
}

// badDesks have just one fault each.
func badDesks() map[string]impl.Desk {
	p, c, page := nine(), curveOf([]float32{0, 4}, []float32{0, 1}), pageOf("a", nine())
	list := map[string]impl.Desk{
		"the zero desk": {},
		"only a curve":  {Curve: c},
		"no curve":      {Now: p},
		"only pages":    {Pages: albumOf(page)},
	}
	for what, bad := range badPictures() {
		list["the picture "+what] = deskOf(bad, c, page)
	}
	for what, bad := range badToneCurves() {
		list["the curve "+what] = deskOf(p, bad, page)
	}
	for what, bad := range badAlbums() {
		list["the pages "+what] = deskOf(p, c, bad...)
	}
	return list
}

func sameLights(a, b []float32) bool { return slices.EqualFunc(a, b, same) }

// sameDesks is what told tells, but faster.
func sameDesks(a, b impl.Desk) bool {
	sameLit := func(p, q impl.Picture) bool {
		return p.Wide == q.Wide && p.High == q.High && sameLights(p.Lights, q.Lights)
	}
	return sameLit(a.Now, b.Now) && sameLights(a.Curve.X, b.Curve.X) && sameLights(a.Curve.Y, b.Curve.Y) && slices.EqualFunc(a.Pages, b.Pages, func(p, q impl.Page) bool {
		return p.Name == q.Name && sameLit(p.Picture, q.Picture)
	})
}

func wantDesk(t *testing.T, what string, got, want impl.Desk) {
	t.Helper()
	if !sameDesks(got, want) {
		t.Errorf("%s: got the desk%s, want%s", what, told(got), told(want))
	}
}

// wantRun takes what DeskCommand and RunDesk return.
func wantRun(t *testing.T, what string, want impl.Desk, wantOutput string) func(impl.Desk, string, bool) {
	return func(got impl.Desk, output string, ok bool) {
		t.Helper()
		if !ok || output != wantOutput {
			t.Errorf("%s: got the output %.200q, %v, want %.200q", what, output, ok, wantOutput)
		}
		wantDesk(t, what, got, want)
	}
}

func wantNoRun(t *testing.T, what string) func(impl.Desk, string, bool) {
	return func(got impl.Desk, output string, ok bool) {
		t.Helper()
		if ok || output != "" || told(got) != told(impl.Desk{}) {
			t.Errorf("%s: got the desk%s, %.200q, %v", what, told(got), output, ok)
		}
	}
}

// texted are numbers as chapter 1 writes them.
func texted(list []float32) string {
	var texts []string
	for _, x := range list {
		texts = append(texts, fmt.Sprintf("%08x", rawBits(x)))
	}
	if len(texts) == 0 {
		return "none"
	}
	return strings.Join(texts, ",")
}

func pictureText(p impl.Picture) string {
	return fmt.Sprintf("%d,%d;%s", p.Wide, p.High, texted(p.Lights))
}

func curveText(c impl.Curve) string { return texted(c.X) + ";" + texted(c.Y) }

func pagesText(list []impl.Page) string {
	var texts []string
	for _, page := range list {
		texts = append(texts, page.Name+":"+pictureText(page.Picture))
	}
	if len(texts) == 0 {
		return "none"
	}
	return strings.Join(texts, "/")
}

const numbersPattern = `[0-9a-f]{8}(?:,[0-9a-f]{8})*`

var (
	picturePattern = regexp.MustCompile(`^([1-9]|1[0-6]),([1-9]|1[0-6]);(` + numbersPattern + `)$`)
	curvePattern   = regexp.MustCompile(`^(` + numbersPattern + `);(` + numbersPattern + `)$`)
	pagePattern    = regexp.MustCompile(`^([a-z]{1,8}):([^/]*)$`)
	numberPattern  = regexp.MustCompile(`^[0-9a-f]{8}$`)
	integerPattern = regexp.MustCompile(`^(0|-?[1-9][0-9]{0,15})$`)
)

// finiteNumbers takes a text that has numbersPattern.
func finiteNumbers(text string) ([]float32, bool) {
	var list []float32
	for _, t := range strings.Split(text, ",") {
		bits, _ := strconv.ParseUint(t, 16, 32)
		list = append(list, num(uint32(bits)))
	}
	return list, allFinite(list)
}

// pictureIn, curveIn and pagesIn read texts in another way than the program.
func pictureIn(t string) (impl.Picture, bool) {
	m := picturePattern.FindStringSubmatch(t)
	if m == nil {
		return impl.Picture{}, false
	}
	wide, _ := strconv.Atoi(m[1])
	high, _ := strconv.Atoi(m[2])
	lights, ok := finiteNumbers(m[3])
	if !ok || len(lights) != wide*high {
		return impl.Picture{}, false
	}
	return pictureOf(int64(wide), int64(high), lights...), true
}

func curveIn(t string) (impl.Curve, bool) {
	m := curvePattern.FindStringSubmatch(t)
	if m == nil {
		return impl.Curve{}, false
	}
	x, ok := finiteNumbers(m[1])
	y, too := finiteNumbers(m[2])
	rising := true
	for k := 1; k < len(x); k++ {
		rising = rising && x[k] > x[k-1]
	}
	if !ok || !too || !rising || len(x) < 2 || len(x) > 16 || len(x) != len(y) {
		return impl.Curve{}, false
	}
	return curveOf(x, y), true
}

func pagesIn(t string) ([]impl.Page, bool) {
	if t == "none" {
		return nil, true
	}
	var list []impl.Page
	for _, text := range strings.Split(t, "/") {
		m := pagePattern.FindStringSubmatch(text)
		if m == nil || len(list) == 8 || len(list) > 0 && m[1] <= list[len(list)-1].Name {
			return nil, false
		}
		p, ok := pictureIn(m[2])
		if !ok {
			return nil, false
		}
		list = append(list, pageOf(m[1], p))
	}
	return list, true
}

func wantReadPicture(t *testing.T, text string) {
	t.Helper()
	want, ok := pictureIn(text)
	if ok {
		wantPicture(t, fmt.Sprintf("ReadPicture %q", text), want)(impl.ReadPicture(text))
	} else {
		wantNoPicture(t, fmt.Sprintf("ReadPicture %q", text))(impl.ReadPicture(text))
	}
}

func wantReadCurve(t *testing.T, text string) {
	t.Helper()
	want, ok := curveIn(text)
	if ok {
		wantCurve(t, fmt.Sprintf("ReadCurve %q", text), want)(impl.ReadCurve(text))
	} else {
		wantNoCurve(t, fmt.Sprintf("ReadCurve %q", text))(impl.ReadCurve(text))
	}
}

func wantReadPages(t *testing.T, text string) {
	t.Helper()
	want, ok := pagesIn(text)
	if ok {
		wantPages(t, fmt.Sprintf("ReadPages %q", text), want)(impl.ReadPages(text))
	} else {
		wantNoList[impl.Page](t, fmt.Sprintf("ReadPages %q", text))(impl.ReadPages(text))
	}
}

// damaged are texts that are a little different: cut, without a byte, with one more, or with another one.
func damaged(text string) []string {
	var list []string
	for at := 0; at <= len(text); at++ {
		list = append(list, text[:at], text[at:])
		for _, c := range []byte("0179afgzAF ,;:/-+.\n\x00\x7f\xff") {
			list = append(list, text[:at]+string([]byte{c})+text[at:])
			if at < len(text) {
				list = append(list, text[:at]+string([]byte{c})+text[at+1:])
			}
		}
		if at < len(text) {
			list = append(list, text[:at]+text[at+1:])
		}
	}
	return append(list, text+text, text+","+text, text+";"+text, text+"/"+text, text+":"+text)
}
