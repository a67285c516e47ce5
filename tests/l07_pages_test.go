package tests

import (
	"fmt"
	"slices"
	"strings"
	"testing"

	"loop.example/g01308/impl"
)

func TestValidPage(t *testing.T) {
	for _, name := range []string{"a", "z", "sun", "abcdefgh", "zzzzzzzz"} {
		wantBool(t, "ValidPage "+name, impl.ValidPage(pageOf(name, pictureOf(2, 1, 1, 2))), true)
		wantBool(t, "ValidPage with odd lights, "+name, impl.ValidPage(pageOf(name, oddPicture())), true)
	}
	for what, bad := range badPages() {
		wantBool(t, "ValidPage of "+what, impl.ValidPage(bad), false)
	}
}

func TestArePages(t *testing.T) {
	for i, list := range albums() {
		wantBool(t, fmt.Sprintf("ArePages of the album %d", i), impl.ArePages(list), true)
	}
	wantBool(t, "ArePages of nil", impl.ArePages(nil), true)
	for what, bad := range badAlbums() {
		wantBool(t, "ArePages of "+what, impl.ArePages(bad), false)
	}
}

func TestSamePages(t *testing.T) {
	lists := albums()
	for _, bad := range badAlbums() {
		lists = append(lists, bad)
	}
	for i, a := range lists {
		for k, b := range lists {
			want := len(a) == len(b)
			for j := 0; want && j < len(a); j++ {
				want = a[j].Name == b[j].Name && samePictures(a[j].Picture, b[j].Picture)
			}
			wantBool(t, fmt.Sprintf("SamePages of the albums %d and %d", i, k), impl.SamePages(a, b), want)
		}
	}
	p := pictureOf(2, 1, 1, 2)
	list := albumOf(pageOf("a", p), pageOf("b", p))
	for what, other := range map[string][]impl.Page{
		"a page less":         list[:1],
		"a page more":         append(slices.Clone(list), pageOf("c", p)),
		"another first name":  albumOf(pageOf("c", p), pageOf("b", p)),
		"another last name":   albumOf(pageOf("a", p), pageOf("c", p)),
		"another last light":  albumOf(pageOf("a", p), pageOf("b", pictureOf(2, 1, 1, 3))),
		"another first light": albumOf(pageOf("a", pictureOf(2, 1, 0, 2)), pageOf("b", p)),
		"other sides":         albumOf(pageOf("a", p), pageOf("b", pictureOf(1, 2, 1, 2))),
		"another order":       albumOf(pageOf("b", p), pageOf("a", p)),
		"nil":                 nil,
	} {
		wantBool(t, "SamePages with "+what, impl.SamePages(list, other), false)
		wantBool(t, "SamePages of "+what, impl.SamePages(other, list), false)
		wantBool(t, "SamePages of "+what+" with itself", impl.SamePages(other, other), true)
	}
	wantBool(t, "SamePages of both zeros", impl.SamePages(albumOf(pageOf("a", pictureOf(1, 1, 0))), albumOf(pageOf("a", pictureOf(1, 1, num(minusZero))))), false)
	wantBool(t, "SamePages of two not-a-numbers", impl.SamePages(albumOf(pageOf("", pictureOf(0, 7, num(nanBits)))), albumOf(pageOf("", pictureOf(0, 7, num(0xff800001))))), true)
	wantBool(t, "SamePages of nil and none", impl.SamePages(nil, []impl.Page{}), true)
}

func TestPutPage(t *testing.T) {
	p, q := pictureOf(2, 1, 1, 2), oddPicture()
	b, d := pageOf("b", p), pageOf("d", p)
	for _, c := range []struct {
		list []impl.Page
		page impl.Page
		want []impl.Page
	}{
		{nil, b, albumOf(b)},
		{albumOf(b, d), pageOf("a", q), albumOf(pageOf("a", q), b, d)},
		{albumOf(b, d), pageOf("c", q), albumOf(b, pageOf("c", q), d)},
		{albumOf(b, d), pageOf("e", q), albumOf(b, d, pageOf("e", q))},
		{albumOf(b, d), pageOf("b", q), albumOf(pageOf("b", q), d)},
		{albumOf(b, d), pageOf("d", q), albumOf(b, pageOf("d", q))},
		{albumOf(b, d), b, albumOf(b, d)},
		{albumOf(b, d), pageOf("bb", q), albumOf(b, pageOf("bb", q), d)},
		{albumOf(b, d), pageOf("abcdefgh", q), albumOf(pageOf("abcdefgh", q), b, d)},
	} {
		wantPages(t, fmt.Sprintf("PutPage %s among %d", c.page.Name, len(c.list)), c.want)(impl.PutPage(c.list, c.page))
	}
	for i, list := range albums() {
		for _, name := range []string{"a", "aa", "aaa", "abcdefgh", "m", "moon", "sun", "zzzzzzzz"} {
			want := []impl.Page{pageOf(name, q)}
			for _, page := range list {
				if page.Name != name {
					want = append(want, page)
				}
			}
			slices.SortFunc(want, func(a, b impl.Page) int { return strings.Compare(a.Name, b.Name) })
			what := fmt.Sprintf("PutPage %s in the album %d", name, i)
			if len(want) == 9 {
				wantNoList[impl.Page](t, what)(impl.PutPage(list, pageOf(name, q)))
				continue
			}
			wantPages(t, what, want)(impl.PutPage(list, pageOf(name, q)))
		}
		for what, bad := range badPages() {
			wantNoList[impl.Page](t, fmt.Sprintf("PutPage of %s in the album %d", what, i))(impl.PutPage(list, bad))
		}
	}
	for what, bad := range badAlbums() {
		wantNoList[impl.Page](t, "PutPage in "+what)(impl.PutPage(bad, b))
		wantNoList[impl.Page](t, "PutPage of q in "+what)(impl.PutPage(bad, pageOf("q", q)))
		// What would be put in place of a bad page.
		for _, name := range []string{"a", "m", "z"} {
			wantNoList[impl.Page](t, "PutPage of "+name+" in "+what)(impl.PutPage(bad, pageOf(name, q)))
		}
	}
}

func TestFindAndDropPage(t *testing.T) {
	for i, list := range albums() {
		for k, page := range list {
			what := fmt.Sprintf("the page %d of the album %d", k, i)
			wantInteger(t, "FindPage: "+what, int64(k), true)(impl.FindPage(list, page.Name))
			wantPages(t, "DropPage: "+what, slices.Concat(list[:k], list[k+1:]))(impl.DropPage(list, page.Name))
		}
		for _, name := range append(badNames(), "q", "aaa", "zzzzzzz", "abcdefg") {
			what := fmt.Sprintf("%q in the album %d", name, i)
			wantInteger(t, "FindPage "+what, 0, false)(impl.FindPage(list, name))
			wantNoList[impl.Page](t, "DropPage "+what)(impl.DropPage(list, name))
		}
	}
	for what, bad := range badAlbums() {
		for _, name := range []string{"", "a", "b", "c", "m", "z"} {
			wantInteger(t, "FindPage "+name+" in "+what, 0, false)(impl.FindPage(bad, name))
			wantNoList[impl.Page](t, "DropPage "+name+" of "+what)(impl.DropPage(bad, name))
		}
	}
	one := albumOf(pageOf("a", pictureOf(1, 1, 1)))
	wantPages(t, "DropPage of the only page", nil)(impl.DropPage(one, "a"))
	wantInteger(t, "FindPage in nil", 0, false)(impl.FindPage(nil, "a"))
	wantNoList[impl.Page](t, "DropPage of nil")(impl.DropPage(nil, "a"))
}

func checked(bytes string) int {
	check := 0
	for i := range len(bytes) {
		check = (839*check + int(bytes[i]) + 137) % 65003
	}
	return check
}

// sealed puts the check number behind the bytes of a page.
func sealed(bytes string) string {
	check := checked(bytes)
	return bytes + string([]byte{byte(check % 256), byte(check / 256)})
}

// bodyOf are the bytes of a page in front of its check number, whether it is valid or not; all lights are told by their bits.
func bodyOf(name string, wide, high byte, bits ...uint32) string {
	s := []byte("PIC1" + string([]byte{byte(len(name))}) + name)
	s = append(s, wide, high)
	for _, by := range []uint32{1, 256, 65536, 16777216} {
		for _, b := range bits {
			s = append(s, byte(b/by%256))
		}
	}
	return string(s)
}

func stored(page impl.Page) string {
	var bits []uint32
	for _, light := range page.Picture.Lights {
		bits = append(bits, rawBits(light))
	}
	return sealed(bodyOf(page.Name, byte(page.Picture.Wide), byte(page.Picture.High), bits...))
}

func storedAll(list []impl.Page) string {
	s := ""
	for _, page := range list {
		s += stored(page)
	}
	return s
}

func wantPage(t *testing.T, what string, want impl.Page) func(impl.Page, bool) {
	return func(got impl.Page, ok bool) {
		t.Helper()
		if !ok || told(got) != told(want) {
			t.Errorf("%s: got %v, %v, want %v", what, got, ok, want)
		}
	}
}

func wantNoPage(t *testing.T, what string) func(impl.Page, bool) {
	return func(got impl.Page, ok bool) {
		t.Helper()
		if ok || got.Name != "" || told(got.Picture) != told(impl.Picture{}) {
			t.Errorf("%s: got %v, %v", what, got, ok)
		}
	}
}

func TestStorePage(t *testing.T) {
	two := pageOf("ab", pictureOf(2, 1, 1, -2.5))
	wantText(t, "StorePage of two lights", "PIC1\x02ab\x02\x01\x00\x00\x00\x00\x80\x20\x3f\xc0"+"\xe2\x41", true)(impl.StorePage(two))
	one, _ := impl.StorePage(pageOf("a", pictureOf(1, 1, num(0x12345678))))
	if !strings.HasPrefix(one, "PIC1\x01a\x01\x01\x78\x56\x34\x12") || len(one) != 14 {
		t.Errorf("StorePage of one light: got %q", one)
	}
	for i, list := range albums() {
		for k, page := range list {
			what := fmt.Sprintf("the page %d of the album %d", k, i)
			wantText(t, "StorePage: "+what, stored(page), true)(impl.StorePage(page))
			wantPage(t, "LoadPage: "+what, page)(impl.LoadPage(stored(page)))
		}
		wantText(t, fmt.Sprintf("StorePages of the album %d", i), storedAll(list), true)(impl.StorePages(list))
	}
	for what, bad := range badPages() {
		wantText(t, "StorePage of "+what, "", false)(impl.StorePage(bad))
	}
	for what, bad := range badAlbums() {
		wantText(t, "StorePages of "+what, "", false)(impl.StorePages(bad))
	}
	wantText(t, "StorePages of nil", "", true)(impl.StorePages(nil))
}

func TestLoadPageFails(t *testing.T) {
	for what, s := range map[string]string{
		"no bytes":             "",
		"a check number alone": sealed(""),
		"the mark alone":       "PIC1",
		"a sealed mark":        sealed("PIC1"),
		"an empty name":        sealed(bodyOf("", 1, 1, 0)),
		"nine letters":         sealed(bodyOf("abcdefghi", 1, 1, 0)),
		"a great letter":       sealed(bodyOf("A", 1, 1, 0)),
		"a last digit":         sealed(bodyOf("a1", 1, 1, 0)),
		"a byte that is 0":     sealed(bodyOf("a\x00", 1, 1, 0)),
		"no rune":              sealed(bodyOf("\xff", 1, 1, 0)),
		"no columns":           sealed(bodyOf("a", 0, 1)),
		"no rows":              sealed(bodyOf("a", 1, 0)),
		"no pixels":            sealed(bodyOf("a", 0, 0)),
		"17 columns":           sealed(bodyOf("a", 17, 1, make([]uint32, 17)...)),
		"17 rows":              sealed(bodyOf("a", 1, 17, make([]uint32, 17)...)),
		"255 columns and rows": sealed(bodyOf("a", 255, 255, make([]uint32, 255*255)...)),
		"a light too many":     sealed(bodyOf("a", 1, 1, 0, 0)),
		"a light too few":      sealed(bodyOf("a", 2, 1, 0)),
		"a byte too many":      sealed(bodyOf("a", 1, 1, 0) + "\x00"),
		"another mark":         sealed("PIC2" + bodyOf("a", 1, 1, 0)[4:]),
		"a small mark":         sealed("pic1" + bodyOf("a", 1, 1, 0)[4:]),
		"bytes in front":       "x" + sealed(bodyOf("a", 1, 1, 0)),
		"sealed twice":         sealed(sealed(bodyOf("a", 1, 1, 0))),
		"infinity":             sealed(bodyOf("a", 1, 1, infBits)),
		"the other infinity":   sealed(bodyOf("a", 2, 1, 0, minusInfBits)),
		"a not-a-number":       sealed(bodyOf("a", 2, 1, nanBits, 0)),
		"another one":          sealed(bodyOf("a", 2, 1, 0, 0x7f800001)),
		"a negative one":       sealed(bodyOf("a", 1, 1, 0xffffffff)),
	} {
		wantNoPage(t, "LoadPage of "+what)(impl.LoadPage(s))
	}
	for _, bits := range []uint32{0, minusZero, tiniest, 0x80000001, 0x007fffff, greatest, 0xff7fffff} {
		wantPage(t, fmt.Sprintf("LoadPage of %08x", bits), pageOf("a", pictureOf(1, 1, num(bits))))(impl.LoadPage(sealed(bodyOf("a", 1, 1, bits))))
	}
}

// The two bytes of a check number could tell some numbers in a second way, which is none.
func TestGreatCheckNumbersAreNone(t *testing.T) {
	found := 0
	for bits := uint32(0); found < 5; bits++ {
		body := bodyOf("a", 1, 1, bits)
		check := checked(body)
		if check >= 65536-65003 {
			continue
		}
		found++
		wantPage(t, fmt.Sprintf("LoadPage with the check number %d", check), pageOf("a", pictureOf(1, 1, num(bits))))(impl.LoadPage(sealed(body)))
		check += 65003
		wantNoPage(t, fmt.Sprintf("LoadPage with the check number %d", check))(impl.LoadPage(body + string([]byte{byte(check), byte(check >> 8)})))
	}
}

// pagesWithin are the pages of a list that end within so many bytes, and how many bytes they take.
func pagesWithin(list []impl.Page, room int) ([]impl.Page, int) {
	size := 0
	for k, page := range list {
		more := len(stored(page))
		if size+more > room {
			return list[:k], size
		}
		size += more
	}
	return list, size
}

// stepFor goes through short texts byte by byte, and through others faster.
func stepFor(s string) int { return 1 + len(s)/400 }

func TestTextsThatAreCut(t *testing.T) {
	for i, list := range albums() {
		for k, page := range list {
			s := stored(page)
			for at := 0; at < len(s); at += stepFor(s) {
				wantNoPage(t, fmt.Sprintf("LoadPage of %d bytes of the page %d of the album %d", at, k, i))(impl.LoadPage(s[:at]))
			}
			wantNoPage(t, fmt.Sprintf("LoadPage of all bytes but one of the page %d of the album %d", k, i))(impl.LoadPage(s[:len(s)-1]))
			for _, more := range []string{"\x00", "P", "x", s, s[:1]} {
				wantNoPage(t, fmt.Sprintf("LoadPage of the page %d of the album %d and more", k, i))(impl.LoadPage(s + more))
			}
		}
		s := storedAll(list)
		for at := 0; at <= len(s); at += stepFor(s) {
			want, size := pagesWithin(list, at)
			wantRecovered(t, fmt.Sprintf("RecoverPages of %d bytes of the album %d", at, i), want, size)(impl.RecoverPages(s[:at]))
		}
		for n := range list {
			end := len(storedAll(list[:n+1]))
			want, size := pagesWithin(list, end-1)
			wantRecovered(t, fmt.Sprintf("RecoverPages of all but one byte of %d pages of the album %d", n+1, i), want, size)(impl.RecoverPages(s[:end-1]))
			wantRecovered(t, fmt.Sprintf("RecoverPages of %d pages of the album %d", n+1, i), list[:n+1], end)(impl.RecoverPages(s[:end]))
		}
	}
}

func wantRecovered(t *testing.T, what string, want []impl.Page, wantSize int) func([]impl.Page, int64, bool) {
	return func(got []impl.Page, size int64, ok bool) {
		t.Helper()
		if !ok || size != int64(wantSize) || len(got) != len(want) || told(got) != told(want) {
			t.Errorf("%s: got %v, %d, %v, want %v, %d", what, got, size, ok, want, wantSize)
		}
	}
}

// Each byte becomes each other one: the pages in front of it are kept, and no page has it.
func TestTextsOfOtherBytes(t *testing.T) {
	page := pageOf("sun", pictureOf(2, 2, 1, num(minusZero), -2.5, num(tiniest)))
	s := stored(page)
	for at := range len(s) {
		for other := range 256 {
			if byte(other) == s[at] {
				continue
			}
			changed := s[:at] + string([]byte{byte(other)}) + s[at+1:]
			what := fmt.Sprintf("the byte %d is %d", at, other)
			wantNoPage(t, "LoadPage where "+what)(impl.LoadPage(changed))
			wantRecovered(t, "RecoverPages where "+what, nil, 0)(impl.RecoverPages(changed))
		}
	}
	for i, list := range albums() {
		s := storedAll(list)
		for at := 0; at < len(s); at += stepFor(s) {
			want, size := pagesWithin(list, at)
			for _, other := range []byte{s[at] + 1, s[at] ^ 0x80, s[at] ^ 0x20} {
				changed := s[:at] + string([]byte{other}) + s[at+1:]
				what := fmt.Sprintf("RecoverPages of the album %d where the byte %d is %d", i, at, other)
				wantRecovered(t, what, want, size)(impl.RecoverPages(changed))
			}
		}
	}
}

func TestRecoverPages(t *testing.T) {
	p := pictureOf(1, 1, 1)
	a, b, c := pageOf("a", p), pageOf("b", oddPicture()), pageOf("c", p)
	for i, list := range albums() {
		s := storedAll(list)
		for _, more := range []string{"", "\x00", "P", "PIC1", "PIC1\x01a", "\xff\xff\xff", strings.Repeat("z", 3000)} {
			wantRecovered(t, fmt.Sprintf("RecoverPages of the album %d and %d bytes", i, len(more)), list, len(s))(impl.RecoverPages(s + more))
			wantRecovered(t, fmt.Sprintf("RecoverPages of the album %d behind a byte", i), nil, 0)(impl.RecoverPages("x" + s))
		}
	}
	for what, test := range map[string]struct{ list, want []impl.Page }{
		"a name twice":       {albumOf(a, a), albumOf(a)},
		"a last name twice":  {albumOf(a, b, b), albumOf(a, b)},
		"a lesser last name": {albumOf(a, c, b), albumOf(a, c)},
		"falling names":      {albumOf(c, b, a), albumOf(c)},
		"a better page next": {albumOf(b, a, c), albumOf(b)},
	} {
		wantRecovered(t, "RecoverPages of "+what, test.want, len(storedAll(test.want)))(impl.RecoverPages(storedAll(test.list)))
	}
	// There are no more than eight pages, however many there are.
	var list []impl.Page
	for k := range 12 {
		list = append(list, pageOf(string(rune('a'+k)), p))
	}
	for n := range list {
		want := list[:min(n, 8)]
		wantRecovered(t, fmt.Sprintf("RecoverPages of %d pages", n), want, len(storedAll(want)))(impl.RecoverPages(storedAll(list[:n])))
	}
	// A page that is none, between two pages.
	none := sealed(bodyOf("b", 1, 1, infBits))
	wantRecovered(t, "RecoverPages of a page that is none", albumOf(a), 14)(impl.RecoverPages(stored(a) + none + stored(c)))
}

// One third of promise 8.
func TestAlbumsAreLoadedAsTheyWereStored(t *testing.T) {
	for i, list := range albums() {
		s, ok := impl.StorePages(list)
		wantBool(t, fmt.Sprintf("StorePages of the album %d", i), ok, true)
		back, size, ok := impl.RecoverPages(s)
		if !ok || size != int64(len(s)) || told(back) != told(list) || !impl.SamePages(back, list) {
			t.Errorf("the album %d: got %v, %d, %v, want %v", i, back, size, ok, list)
		}
	}
	for i, p := range allPictures() {
		s, _ := impl.StorePage(pageOf("abcdefgh", p))
		wantPage(t, fmt.Sprintf("LoadPage of StorePage of the picture %d", i), pageOf("abcdefgh", p))(impl.LoadPage(s))
	}
}
