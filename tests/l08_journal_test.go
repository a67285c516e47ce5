package tests

import (
	"fmt"
	"slices"
	"strings"
	"testing"

	"loop.example/g01308/impl"
)

// checkedBehind goes on from the check number of a line before.
func checkedBehind(check int, line string) int {
	for i := range len(line) {
		check = (839*check + int(line[i]) + 137) % 65003
	}
	return check
}

// entries are the lines of a journal, each with its newline.
func entries(lines []string) []string {
	var list []string
	check := 0
	for _, line := range lines {
		check = checkedBehind(check, line)
		list = append(list, fmt.Sprintf("%d %s\n", check, line))
	}
	return list
}

func journalOf(lines []string) string { return strings.Join(entries(lines), "") }

// journals are lists of lines of all kinds, whose journals are short enough.
func journals() [][]string {
	list := [][]string{
		{},
		{""},
		{"", ""},
		{"", "", "", ""},
		{" ", "", "  "},
		{"mean", "pages"},
		{"mean", "mean", "mean"},
		{"mean", "", "mean", ""},
		{"0", "0 ", " 0", "0 0"},
		{"12345 mean", "0 mean", "mean 0"},
		{"\x00", "\xff", "\r", "\t", "ä", "\xff\xfe\xfd"},
		{"picture 2,1;3f800000,40000000", "keep a", "scale 40000000", "add a", "what is this", "scale 3f800000"},
		{strings.Repeat("x", 1000), strings.Repeat(" ", 500)},
	}
	return append(list, scripts()...)
}

func wantLines(t *testing.T, what string, want []string, wantSize int) func([]string, int64, bool) {
	return func(got []string, size int64, ok bool) {
		t.Helper()
		if !ok || size != int64(wantSize) || !slices.Equal(got, want) {
			t.Errorf("%s: got %.300q, %d, %v, want %.300q, %d", what, got, size, ok, want, wantSize)
		}
	}
}

func wantNoLines(t *testing.T, what string) func([]string, int64, bool) {
	return func(got []string, size int64, ok bool) {
		t.Helper()
		if ok || size != 0 || len(got) != 0 {
			t.Errorf("%s: got %.300q, %d, %v", what, got, size, ok)
		}
	}
}

func TestJournalOf(t *testing.T) {
	// The check number of a is 97 + 137; 839 times it, plus 98 and 137, is 1552 more than three times 65003.
	wantText(t, "JournalOf a", "234 a\n", true)(impl.JournalOf([]string{"a"}))
	wantText(t, "JournalOf a and b", "234 a\n1552 b\n", true)(impl.JournalOf([]string{"a", "b"}))
	wantText(t, "JournalOf a, nothing and b", "234 a\n234 \n1552 b\n", true)(impl.JournalOf([]string{"a", "", "b"}))
	wantText(t, "JournalOf nothing", "0 \n", true)(impl.JournalOf([]string{""}))
	wantText(t, "JournalOf a blank", "169  \n", true)(impl.JournalOf([]string{" "}))
	wantText(t, "JournalOf no lines", "", true)(impl.JournalOf(nil))
	for i, lines := range journals() {
		wantText(t, fmt.Sprintf("JournalOf the lines %d", i), journalOf(lines), true)(impl.JournalOf(lines))
	}
}

func TestJournalOfFails(t *testing.T) {
	for _, lines := range [][]string{{"\n"}, {"mean\n"}, {"\nmean"}, {"mean\npages"}, {"mean", "\n"}, {"\n", "mean"}, {"", "a\n\nb", ""}} {
		wantText(t, fmt.Sprintf("JournalOf %q", lines), "", false)(impl.JournalOf(lines))
	}
	// The journal of an empty line has 3 bytes.
	wantText(t, "JournalOf 15999 bytes", strings.Repeat("0 \n", 5333), true)(impl.JournalOf(repeated("", 5333)))
	wantText(t, "JournalOf 16002 bytes", "", false)(impl.JournalOf(repeated("", 5334)))
	wantText(t, "JournalOf very many lines", "", false)(impl.JournalOf(repeated("", 100000)))
	for size := 15997; size <= 16003; size++ {
		lines := linesOfSize(t, size)
		text, what := journalOf(lines), fmt.Sprintf("%d bytes", size)
		if size > 16000 {
			wantText(t, "JournalOf "+what, "", false)(impl.JournalOf(lines))
			wantNoLines(t, "RecoverJournal of "+what)(impl.RecoverJournal(text))
			wantNoRunJournal(t, "RunJournal of "+what)(impl.RunJournal(impl.NewDesk(), text))
		} else {
			wantText(t, "JournalOf "+what, text, true)(impl.JournalOf(lines))
			wantLines(t, "RecoverJournal of "+what, lines, size)(impl.RecoverJournal(text))
			wantRunJournal(t, "RunJournal of "+what, impl.NewDesk(), 2)(impl.RunJournal(impl.NewDesk(), text))
		}
	}
}

// linesOfSize are two lines whose journal has so many bytes.
func linesOfSize(t *testing.T, size int) []string {
	t.Helper()
	// The last check number has as many digits as it has: another letter can make it longer.
	for _, letter := range []string{"x", "y", "z"} {
		for more := range 30 {
			lines := []string{"mean", strings.Repeat(letter, size-more)}
			if len(journalOf(lines)) == size {
				return lines
			}
		}
	}
	t.Fatalf("no two lines have a journal of %d bytes", size)
	return nil
}

// linesWithin are the lines whose journal ends within so many bytes, and how many bytes it has.
func linesWithin(lines []string, room int) ([]string, int) {
	size := 0
	for k, entry := range entries(lines) {
		if size+len(entry) > room {
			return lines[:k], size
		}
		size += len(entry)
	}
	return lines, size
}

// A part of promise 9: a journal is recovered as far as it is intact.
func TestJournalsThatAreCut(t *testing.T) {
	for i, lines := range journals() {
		text := journalOf(lines)
		for at := 0; at <= len(text); at++ {
			want, size := linesWithin(lines, at)
			wantLines(t, fmt.Sprintf("RecoverJournal of %d bytes of the journal %d", at, i), want, size)(impl.RecoverJournal(text[:at]))
		}
		for _, more := range []string{"\n", " ", "\x00", "0", "0 ", "x", "0 \n", "\n\n", "1 mean\n", "65003 \n", strings.Repeat("z", 500)} {
			want, size := slices.Clone(lines), len(text)
			if more == "0 \n" && (text == "" || strings.HasPrefix(entries(lines)[len(lines)-1], "0 ")) {
				want, size = append(want, ""), size+3
			}
			wantLines(t, fmt.Sprintf("RecoverJournal of the journal %d and %.10q", i, more), want, size)(impl.RecoverJournal(text + more))
		}
	}
}

// recovered looks for the greatest number of lines by trying all pieces of a text.
func recovered(text string) ([]string, int) {
	var lines []string
	size := 0
	pieces := strings.SplitAfter(text, "\n")
	for _, piece := range pieces {
		blank := strings.IndexByte(piece, ' ')
		if blank < 0 || !strings.HasSuffix(piece, "\n") {
			break
		}
		longer := append(slices.Clone(lines), piece[blank+1:len(piece)-1])
		if journal := journalOf(longer); !strings.HasPrefix(text, journal) {
			break
		} else {
			lines, size = longer, len(journal)
		}
	}
	return lines, size
}

// Each byte becomes another one: the lines before it are kept.
func TestJournalsOfOtherBytes(t *testing.T) {
	for i, lines := range journals() {
		text := journalOf(lines)
		step := 1
		if len(text) > 300 {
			step = 1 + len(text)/60
		}
		for at := i % step; at < len(text); at += step {
			least, _ := linesWithin(lines, at)
			for _, other := range []byte{text[at] + 1, text[at] - 1, text[at] ^ 0x80, text[at] ^ 0x20, '0', '9', ' ', '\n', 0, '-', '+'} {
				if other == text[at] {
					continue
				}
				changed := text[:at] + string([]byte{other}) + text[at+1:]
				want, size := recovered(changed)
				if len(want) < len(least) {
					t.Fatalf("the test has lost lines of the journal %d", i)
				}
				wantLines(t, fmt.Sprintf("RecoverJournal of the journal %d where the byte %d is %q", i, at, other), want, size)(impl.RecoverJournal(changed))
			}
		}
	}
	text := journalOf([]string{"mean", "pages"})
	first := len(entries([]string{"mean"})[0])
	for at := range len(text) {
		for other := range 256 {
			changed := text[:at] + string([]byte{byte(other)}) + text[at+1:]
			want, size := recovered(changed)
			if changed != text && at >= first && (size != first || len(want) != 1) {
				t.Errorf("another byte %d is not found by the test", at)
			}
			wantLines(t, fmt.Sprintf("RecoverJournal where the byte %d is %d", at, other), want, size)(impl.RecoverJournal(changed))
		}
	}
}

func TestRecoverJournalOfOddTexts(t *testing.T) {
	mean, pages := checkedBehind(0, "mean"), checkedBehind(0, "pages")
	good := fmt.Sprintf("%d mean\n", mean)
	behind := checkedBehind(mean, "pages")
	for _, text := range []string{
		"", "\n", " \n", " ", "0", "0\n", "0 ", " 0 \n", "00 \n", "-0 \n", "+0 \n", "65003 \n", "0  \n", "0\t\n", "\x000 \n", "mean\n", " mean\n", fmt.Sprintf("%dmean\n", mean), fmt.Sprintf("%d\tmean\n", mean),
		fmt.Sprintf("%d mean", mean), fmt.Sprintf("%d mean\r\n", mean), fmt.Sprintf("%d mean \n", mean), fmt.Sprintf("%d  mean\n", mean), fmt.Sprintf(" %d mean\n", mean), fmt.Sprintf("0%d mean\n", mean), fmt.Sprintf("+%d mean\n", mean),
		fmt.Sprintf("%d mean\n", mean+65003), fmt.Sprintf("%d mean\n", mean-65003), fmt.Sprintf("%d mean\n", mean+1), fmt.Sprintf("%x mean\n", mean), fmt.Sprintf("%d.0 mean\n", mean), fmt.Sprintf("%d Mean\n", mean),
		strings.Repeat("x", 16000), strings.Repeat("\n", 16000), strings.Repeat(" ", 16000), strings.Repeat("0", 16000),
	} {
		wantLines(t, fmt.Sprintf("RecoverJournal %.60q", text), nil, 0)(impl.RecoverJournal(text))
		if len(good+text) <= 16000 {
			wantLines(t, fmt.Sprintf("RecoverJournal of a line and %.60q", text), []string{"mean"}, len(good))(impl.RecoverJournal(good + text))
		}
	}
	for what, text := range map[string]string{
		"a check number that begins again":       good + fmt.Sprintf("%d pages\n", pages),
		"a check number with a zero in front":    good + fmt.Sprintf("0%d pages\n", behind),
		"the check number of the line before":    good + fmt.Sprintf("%d pages\n", mean),
		"a line without a newline":               good + fmt.Sprintf("%d pages", behind),
		"a line behind a line without a newline": good + fmt.Sprintf("%d pages %d pages\n", behind, behind),
		"a blank line":                           good + "\n" + fmt.Sprintf("%d pages\n", behind),
		"the same line":                          good + good,
	} {
		wantLines(t, "RecoverJournal with "+what, []string{"mean"}, len(good))(impl.RecoverJournal(text))
	}
	wantLines(t, "RecoverJournal of two lines", []string{"mean", "pages"}, len(good)+len(fmt.Sprintf("%d pages\n", behind)))(impl.RecoverJournal(good + fmt.Sprintf("%d pages\n", behind)))
	wantLines(t, "RecoverJournal of 15999 bytes and one more", repeated("", 5333), 15999)(impl.RecoverJournal(strings.Repeat("0 \n", 5333) + "0"))
	wantNoLines(t, "RecoverJournal of 15999 bytes and two more")(impl.RecoverJournal(strings.Repeat("0 \n", 5333) + "00"))
	for _, text := range []string{strings.Repeat("0 \n", 5334), strings.Repeat("x", 16001), strings.Repeat("\n", 16001), good + strings.Repeat("x", 16000), strings.Repeat("x", 1000000)} {
		wantNoLines(t, fmt.Sprintf("RecoverJournal of %d bytes", len(text)))(impl.RecoverJournal(text))
	}
}

func wantRunJournal(t *testing.T, what string, want impl.Desk, wantCount int) func(impl.Desk, int64, bool) {
	return func(got impl.Desk, count int64, ok bool) {
		t.Helper()
		if !ok || count != int64(wantCount) {
			t.Errorf("%s: got %d lines, %v, want %d", what, count, ok, wantCount)
		}
		wantDesk(t, what, got, want)
	}
}

func wantNoRunJournal(t *testing.T, what string) func(impl.Desk, int64, bool) {
	return func(got impl.Desk, count int64, ok bool) {
		t.Helper()
		if ok || count != 0 || told(got) != told(impl.Desk{}) {
			t.Errorf("%s: got the desk%s, %d, %v", what, told(got), count, ok)
		}
	}
}

func TestRunJournal(t *testing.T) {
	for i, d := range desks() {
		if i%5 != 0 && len(d.Now.Lights) > 25 {
			continue
		}
		for k, lines := range journals() {
			want, _ := ran(d, lines)
			what := fmt.Sprintf("RunJournal of the journal %d at the desk %d", k, i)
			text := journalOf(lines)
			wantRunJournal(t, what, want, len(lines))(impl.RunJournal(d, text))
			if len(d.Now.Lights) > 9 {
				continue
			}
			for _, at := range []int{len(text) / 3, len(text) / 2, max(len(text)-1, 0)} {
				few, _ := linesWithin(lines, at)
				want, _ := ran(d, few)
				wantRunJournal(t, fmt.Sprintf("%s, %d bytes of it", what, at), want, len(few))(impl.RunJournal(d, text[:at]))
			}
		}
	}
}

func TestRunJournalOfOddTexts(t *testing.T) {
	d := impl.NewDesk()
	for _, text := range []string{"", "\n", "mean\n", "0", "x", "00 \n", strings.Repeat("x", 16000)} {
		wantRunJournal(t, fmt.Sprintf("RunJournal %.20q", text), d, 0)(impl.RunJournal(d, text))
	}
	wantRunJournal(t, "RunJournal of empty lines", d, 5333)(impl.RunJournal(d, strings.Repeat("0 \n", 5333)))
	wantNoRunJournal(t, "RunJournal of 16001 bytes")(impl.RunJournal(d, strings.Repeat("x", 16001)))
	wantNoRunJournal(t, "RunJournal of 16002 bytes")(impl.RunJournal(d, strings.Repeat("0 \n", 5334)))
	for what, bad := range badDesks() {
		for _, text := range []string{"", "x", journalOf([]string{"mean"}), journalOf([]string{"picture 1,1;3f800000", "pages none", "curve 00000000,40800000;00000000,3f800000"})} {
			wantNoRunJournal(t, fmt.Sprintf("RunJournal %q at the desk with %s", text, what))(impl.RunJournal(bad, text))
		}
	}
}

// A part of promise 9: what was written to a journal is carried out again.
func TestJournalsDevelopAgain(t *testing.T) {
	for k, lines := range scripts() {
		text, ok := impl.JournalOf(lines)
		back, size, too := impl.RecoverJournal(text)
		if !ok || !too || size != int64(len(text)) || !slices.Equal(back, lines) {
			t.Errorf("the script %d is not recovered: %v, %v", k, ok, too)
		}
		d, _, _ := impl.RunDesk(impl.NewDesk(), scriptOf(lines))
		wantRunJournal(t, fmt.Sprintf("RunJournal of the script %d", k), d, len(lines))(impl.RunJournal(impl.NewDesk(), text))
	}
}
