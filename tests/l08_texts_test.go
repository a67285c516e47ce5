package tests

import (
	"fmt"
	"slices"
	"strings"
	"testing"

	"loop.example/g01308/impl"
)

func TestValidDesk(t *testing.T) {
	for i, d := range desks() {
		wantBool(t, fmt.Sprintf("ValidDesk of the desk %d", i), impl.ValidDesk(d), true)
	}
	wantBool(t, "ValidDesk of a new desk", impl.ValidDesk(impl.NewDesk()), true)
	for what, bad := range badDesks() {
		wantBool(t, "ValidDesk of "+what, impl.ValidDesk(bad), false)
	}
}

func TestNewDesk(t *testing.T) {
	want := deskOf(pictureOf(4, 2, 0, 1, 2, 3, 0, 1, 2, 3), curveOf([]float32{0, 4}, []float32{0, 1}))
	wantDesk(t, "NewDesk", impl.NewDesk(), want)
	d := impl.NewDesk()
	overwrite(d.Now.Lights, 7)
	overwrite(d.Curve.X, 7)
	overwrite(d.Curve.Y, 7)
	wantDesk(t, "NewDesk behind another one that was overwritten", impl.NewDesk(), want)
}

func TestSameDesk(t *testing.T) {
	list := append(desks(), impl.NewDesk())
	for _, bad := range badDesks() {
		list = append(list, bad)
	}
	for i, a := range list {
		for k, b := range list {
			if got, want := impl.SameDesk(a, b), sameDesks(a, b); got != want {
				t.Errorf("SameDesk of the desks %d and %d: got %v, want %v", i, k, got, want)
			}
		}
	}
}

// Each part alone can be another one.
func TestSameDeskOfOtherParts(t *testing.T) {
	p, c, page := nine(), curveOf([]float32{0, 4}, []float32{0, 1}), pageOf("a", nine())
	d := deskOf(p, c, page)
	for what, other := range map[string]impl.Desk{
		"another light":      deskOf(pictureOf(3, 3, 1, 2, 3, 4, 5, 6, 7, 8, 10), c, page),
		"other sides":        deskOf(pictureOf(9, 1, p.Lights...), c, page),
		"another X":          deskOf(p, curveOf([]float32{0, 5}, []float32{0, 1}), page),
		"another Y":          deskOf(p, curveOf([]float32{0, 4}, []float32{0, 2}), page),
		"another zero":       deskOf(p, curveOf([]float32{0, 4}, []float32{num(minusZero), 1}), page),
		"another name":       deskOf(p, c, pageOf("b", nine())),
		"another page light": deskOf(p, c, pageOf("a", pictureOf(3, 3, 0, 2, 3, 4, 5, 6, 7, 8, 9))),
		"no page":            deskOf(p, c),
		"a page more":        deskOf(p, c, page, pageOf("b", nine())),
	} {
		wantBool(t, "SameDesk with "+what, impl.SameDesk(d, other), false)
		wantBool(t, "SameDesk of "+what, impl.SameDesk(other, d), false)
		wantBool(t, "SameDesk of twice "+what, impl.SameDesk(other, other), true)
	}
	wantBool(t, "SameDesk of equal parts", impl.SameDesk(d, deskOf(nine(), curveOf(c.X, c.Y), pageOf("a", nine()))), true)
	of := func(x float32) impl.Desk {
		return deskOf(pictureOf(0, 0, x), curveOf([]float32{x}, []float32{x, x}), pageOf("?", pictureOf(7, 7, x)))
	}
	wantBool(t, "SameDesk of not-a-numbers", impl.SameDesk(of(num(nanBits)), of(num(0xff800001))), true)
	wantBool(t, "SameDesk of two zeros", impl.SameDesk(of(0), of(num(minusZero))), false)
	wantBool(t, "SameDesk of nil and none", impl.SameDesk(impl.Desk{}, impl.Desk{Pages: []impl.Page{}}), true)
}

func TestPictureText(t *testing.T) {
	for _, c := range []struct {
		p    impl.Picture
		want string
	}{
		{pictureOf(1, 2, 1, 2), "1,2;3f800000,40000000"},
		{pictureOf(1, 1, 0), "1,1;00000000"},
		{pictureOf(2, 1, num(minusZero), num(tiniest)), "2,1;80000000,00000001"},
		{pictureOf(3, 1, num(0x807fffff), num(greatest), -num(greatest)), "3,1;807fffff,7f7fffff,ff7fffff"},
		{pictureOf(16, 1, ones(16)...), "16,1;" + manyTexts("3f800000", 16)},
		{pictureOf(1, 16, ones(16)...), "1,16;" + manyTexts("3f800000", 16)},
		{pictureOf(16, 16, ones(256)...), "16,16;" + manyTexts("3f800000", 256)},
	} {
		wantText(t, "PictureText", c.want, true)(impl.PictureText(c.p))
		wantPicture(t, "ReadPicture "+c.want, c.p)(impl.ReadPicture(c.want))
	}
	for i, p := range slices.Concat(tonePictures(), allPictures(), []impl.Picture{oddPicture()}) {
		text := pictureText(p)
		wantText(t, fmt.Sprintf("PictureText of the picture %d", i), text, true)(impl.PictureText(p))
		wantPicture(t, fmt.Sprintf("ReadPicture of the picture %d", i), p)(impl.ReadPicture(text))
	}
	for what, bad := range badPictures() {
		wantText(t, "PictureText of "+what, "", false)(impl.PictureText(bad))
		wantNoPicture(t, "ReadPicture of "+what)(impl.ReadPicture(pictureText(bad)))
	}
}

func TestReadPictureFails(t *testing.T) {
	texts := []string{
		"", ";", ",;", "none", "none;none", "1,1", "1,1;", ";3f800000", "3f800000", "1;3f800000", "1,1,1;3f800000", ",1;3f800000", "1,;3f800000", ",1,1;3f800000", "1,1,;3f800000",
		"none;3f800000", "1,1;none", "0,0;none", "0,1;none", "1,0;none", "0,0;", "-1,-1;3f800000", "-1,-1;none",
		"1,1;3f800000,", "1,1;,3f800000", "1,1;3f800000;", ";1,1;3f800000", "1,1;;3f800000", "1,1;3f800000;3f800000", "1,1;1,1;3f800000",
		" 1,1;3f800000", "1,1 ;3f800000", "1,1; 3f800000", "1,1;3f800000 ", "1, 1;3f800000", "1,1;3f800000\n", "\n1,1;3f800000",
		"01,1;3f800000", "1,01;3f800000", "+1,1;3f800000", "1,+1;3f800000", "1.0,1;3f800000", "0x1,1;3f800000", "1_,1;3f800000",
		"1,1:3f800000", "1,1/3f800000", "1,1,3f800000", "1;1;3f800000", "a:1,1;3f800000",
		"1,2;3f800000", "2,1;3f800000", "1,1;3f800000,3f800000", "2,2;" + manyTexts("3f800000", 3), "2,2;" + manyTexts("3f800000", 5),
		"17,1;" + manyTexts("3f800000", 17), "1,17;" + manyTexts("3f800000", 17), "16,16;" + manyTexts("3f800000", 255), "16,16;" + manyTexts("3f800000", 257), "16,17;" + manyTexts("3f800000", 272),
		"4294967297,1;3f800000", "18446744073709551617,1;3f800000", "1000000000000001,1;3f800000",
		"1,1;7fc00000", "1,1;7f800000", "1,1;ff800000", "2,1;3f800000,7fc00000", "2,1;7f800000,3f800000",
	}
	for _, bad := range badDigits() {
		texts = append(texts, "1,1;"+bad, "2,1;3f800000,"+bad, "2,1;"+bad+",3f800000", bad+",1;3f800000", "1,"+bad+";3f800000")
	}
	for _, text := range texts {
		wantNoPicture(t, fmt.Sprintf("ReadPicture %q", text))(impl.ReadPicture(text))
	}
	for _, text := range []string{"1,1;3f800000", "2,1;80000000,00000001", "1,2;7f7fffff,ff7fffff", "11,1;" + manyTexts("00000000", 11)} {
		wantReadPicture(t, text)
		for _, other := range damaged(text) {
			wantReadPicture(t, other)
		}
	}
}

func TestCurveText(t *testing.T) {
	wantText(t, "CurveText", "00000000,40800000;00000000,3f800000", true)(impl.CurveText(curveOf([]float32{0, 4}, []float32{0, 1})))
	wantText(t, "CurveText with odd numbers", "80000000,00000001,7f7fffff;ff7fffff,80000000,807fffff", true)(impl.CurveText(curveOf([]float32{num(minusZero), num(tiniest), num(greatest)}, []float32{-num(greatest), num(minusZero), num(0x807fffff)})))
	for i, c := range toneCurves() {
		text := curveText(c)
		wantText(t, fmt.Sprintf("CurveText of the curve %d", i), text, true)(impl.CurveText(c))
		wantCurve(t, fmt.Sprintf("ReadCurve of the curve %d", i), c)(impl.ReadCurve(text))
	}
	for what, bad := range badToneCurves() {
		wantText(t, "CurveText of "+what, "", false)(impl.CurveText(bad))
		wantNoCurve(t, "ReadCurve of "+what)(impl.ReadCurve(curveText(bad)))
	}
}

func TestReadCurveFails(t *testing.T) {
	x, y := "00000000,40800000", "00000000,3f800000"
	texts := []string{
		"", ";", "none", "none;none", ";none", "none;", x, x + ";", ";" + y, x + ";none", "none;" + y, x + "," + y, x + ":" + y, x + "/" + y, x + ";" + y + ";", ";" + x + ";" + y, x + ";;" + y,
		x + ";" + y + ";" + y, x + ";" + y + ",3f800000", x + ",40a00000;" + y, "00000000;3f800000", "00000000;" + y, x + ";3f800000", x + " ;" + y, x + "; " + y, " " + x + ";" + y, x + ";" + y + " ", x + ";" + y + "\n",
		x + ",;" + y, x + ";" + y + ",", "," + x + ";" + y, x + ";," + y, "40800000,00000000;" + y, "00000000,00000000;" + y, "80000000,00000000;" + y, "00000000,80000000;" + y,
		x + ";7fc00000,3f800000", x + ";00000000,7f800000", "ff800000,40800000;" + y, "00000000,7f800000;" + y, "00000000,7fc00000;" + y, "2,2;" + x + ";" + y,
	}
	for _, bad := range badDigits() {
		texts = append(texts, bad+";"+y, x+";"+bad, x+";00000000,"+bad, bad+",40800000;"+y)
	}
	for _, text := range texts {
		wantNoCurve(t, fmt.Sprintf("ReadCurve %q", text))(impl.ReadCurve(text))
	}
	for _, text := range []string{x + ";" + y, "bf800000,80000000,3f800000;ff7fffff,00000001,80000000"} {
		wantReadCurve(t, text)
		for _, other := range damaged(text) {
			wantReadCurve(t, other)
		}
	}
}

func TestPagesText(t *testing.T) {
	one := pictureOf(1, 1, 1)
	for _, c := range []struct {
		list []impl.Page
		want string
	}{
		{nil, "none"},
		{albumOf(), "none"},
		{albumOf(pageOf("a", pictureOf(1, 2, 1, 2))), "a:1,2;3f800000,40000000"},
		{albumOf(pageOf("none", one)), "none:1,1;3f800000"},
		{albumOf(pageOf("a", one), pageOf("abcdefgh", pictureOf(1, 1, num(minusZero)))), "a:1,1;3f800000/abcdefgh:1,1;80000000"},
		{albumOf(pageOf("a", one), pageOf("none", one), pageOf("z", one)), "a:1,1;3f800000/none:1,1;3f800000/z:1,1;3f800000"},
	} {
		wantText(t, "PagesText", c.want, true)(impl.PagesText(c.list))
		wantPages(t, "ReadPages "+c.want, c.list)(impl.ReadPages(c.want))
	}
	for i, list := range albums() {
		text := pagesText(list)
		wantText(t, fmt.Sprintf("PagesText of the album %d", i), text, true)(impl.PagesText(list))
		wantPages(t, fmt.Sprintf("ReadPages of the album %d", i), list)(impl.ReadPages(text))
	}
	for what, bad := range badAlbums() {
		wantText(t, "PagesText of "+what, "", false)(impl.PagesText(bad))
		wantNoList[impl.Page](t, "ReadPages of "+what)(impl.ReadPages(pagesText(bad)))
	}
}

func TestReadPagesFails(t *testing.T) {
	var eight []string
	for _, letter := range "abcdefgh" {
		eight = append(eight, string(letter)+":1,1;3f800000")
	}
	wantReadPages(t, strings.Join(eight, "/"))
	a, b, z := eight[0], eight[1], "z:1,1;3f800000"
	texts := []string{
		"", "/", ":", "None", "none/", "/none", "none/none", "none/" + z, a + "/none", "none,none", "none ", " none", "none\n", "none:", "none:none", "a:none", "a:", ":1,1;3f800000", "1,1;3f800000",
		a + "/", "/" + a, a + "//" + b, a + ";" + b, a + "," + b, a + ":" + b, a + b, b + "/" + a, a + "/" + a, a + "/ " + b, a + " /" + b, a + "\n/" + b, "a :1,1;3f800000", "a: 1,1;3f800000", "a;1,1;3f800000",
		"a/1,1;3f800000", "a::1,1;3f800000", "a:b:1,1;3f800000", "a:1,1:3f800000", "a:1,1;7f800000", "a:1,1;7fc00000", "a:0,0;none", "a:2,1;3f800000", "a:17,1;" + manyTexts("00000000", 17), a + "/b:1,1;7f800000",
		strings.Join(append(slices.Clone(eight), z), "/"), strings.Join(eight, "/") + "/", strings.Repeat("/", 5000), strings.Repeat(":", 5000), strings.Repeat(a+"/", 1000),
	}
	for _, name := range badNames() {
		texts = append(texts, name+":1,1;3f800000", a+"/"+name+":1,1;3f800000", name+":1,1;3f800000/"+z)
	}
	for _, text := range texts {
		wantNoList[impl.Page](t, fmt.Sprintf("ReadPages %.100q", text))(impl.ReadPages(text))
	}
	for _, text := range []string{"none", a, "none:1,1;00000001", a + "/" + b, "ab:2,1;80000000,00000001/b:1,1;7f7fffff"} {
		wantReadPages(t, text)
		for _, other := range damaged(text) {
			wantReadPages(t, other)
		}
	}
}
