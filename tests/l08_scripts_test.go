package tests

import (
	"fmt"
	"slices"
	"strings"
	"testing"

	"loop.example/g01308/impl"
)

// ran is what becomes of a desk by some lines, and their outputs.
func ran(d impl.Desk, lines []string) (impl.Desk, string) {
	outputs := ""
	for _, line := range lines {
		after, output := carriedOut(d, line)
		d = after
		outputs += output + "\n"
	}
	return d, outputs
}

// scriptOf ends each line.
func scriptOf(lines []string) string {
	s := ""
	for _, line := range lines {
		s += line + "\n"
	}
	return s
}

// scripts are lists of lines that change what comes behind them; all of them are short enough.
func scripts() [][]string {
	list := [][]string{
		{},
		{""},
		{"", ""},
		{"mean"},
		{"", "mean", "", "range"},
		{"mean", "mean "},
		{" ", "  ", "\r", "mean\r", "\x00", "\xff\xfe", "ä"},
		{"keep a", "flip", "keep b", "add a", "mix b 3f000000", "pages", "take a", "picture", "drop a", "take a"},
		{"pages none", "keep none", "pages", "take none", "drop none", "pages"},
		{"curve 00000000,3f800000;00000000,40000000", "curved", "curve", "picture", "even", "curved", "picture"},
		{"picture 2,2;00000000,3f800000,40000000,40400000", "turn", "picture", "half", "picture", "half", "picture", "mean"},
		{"scale 7f000000", "scale 7f000000", "picture", "mean", "halved", "clip bf800000 3f800000", "picture"},
	}
	lines := slices.Concat(linesOfAll(), linesOfNone())
	for n := range 40 {
		var script []string
		for k := range 30 {
			line := lines[(n*977+k*k*131+k*17)%len(lines)]
			if len(line) < 500 && !strings.Contains(line, "\n") {
				script = append(script, line)
			}
		}
		list = append(list, script)
	}
	return list
}

func TestRunDesk(t *testing.T) {
	for i, d := range desks() {
		if i%4 != 0 && len(d.Now.Lights) > 40 {
			continue
		}
		for k, lines := range scripts() {
			want, outputs := ran(d, lines)
			wantRun(t, fmt.Sprintf("RunDesk of the script %d at the desk %d", k, i), want, outputs)(impl.RunDesk(d, scriptOf(lines)))
		}
	}
}

// RunDesk does what DeskCommand does with one line after another.
func TestRunDeskIsManyCommands(t *testing.T) {
	for k, lines := range scripts() {
		d, outputs := impl.NewDesk(), ""
		for _, line := range lines {
			after, output, ok := impl.DeskCommand(d, line)
			if !ok || !impl.ValidDesk(after) {
				t.Fatalf("DeskCommand %q of the script %d: got %v", line, k, ok)
			}
			d = after
			outputs += output + "\n"
		}
		wantRun(t, fmt.Sprintf("RunDesk of the script %d", k), d, outputs)(impl.RunDesk(impl.NewDesk(), scriptOf(lines)))
	}
}

func TestRunDeskOfOddScripts(t *testing.T) {
	d := impl.NewDesk()
	wantRun(t, "RunDesk of no lines", d, "")(impl.RunDesk(d, ""))
	wantRun(t, "RunDesk of an empty line", d, "what\n")(impl.RunDesk(d, "\n"))
	wantRun(t, "RunDesk of two empty lines", d, "what\nwhat\n")(impl.RunDesk(d, "\n\n"))
	wantRun(t, "RunDesk of an empty line behind", d, "3fc00000\nwhat\n")(impl.RunDesk(d, "mean\n\n"))
	wantRun(t, "RunDesk of an empty line before", d, "what\n3fc00000\n")(impl.RunDesk(d, "\nmean\n"))
	wantRun(t, "RunDesk with returns", d, "what\n")(impl.RunDesk(d, "mean\r\n"))
	for _, script := range []string{"mean", "mean\nmean", "\nmean", " ", "\x00", "mean\n ", "mean\n\x00", "mean\r", "mean\n\r", "\n\n."} {
		wantNoRun(t, fmt.Sprintf("RunDesk %q", script))(impl.RunDesk(d, script))
	}
	for c := range 256 {
		script := "mean\n" + string([]byte{byte(c)}) + "\nmean\n"
		want := "3fc00000\nwhat\n3fc00000\n"
		if c == '\n' {
			want = "3fc00000\nwhat\nwhat\n3fc00000\n"
		}
		wantRun(t, fmt.Sprintf("RunDesk with the byte %d", c), d, want)(impl.RunDesk(d, script))
	}
}

func TestRunDeskOfLongScripts(t *testing.T) {
	d := impl.NewDesk()
	longest := strings.Repeat("mean\n", 3200)
	wantRun(t, "RunDesk of 16000 bytes", d, strings.Repeat("3fc00000\n", 3200))(impl.RunDesk(d, longest))
	wantRun(t, "RunDesk of 16000 lines", d, strings.Repeat("what\n", 16000))(impl.RunDesk(d, strings.Repeat("\n", 16000)))
	wantRun(t, "RunDesk of one line of 16000 bytes", d, "what\n")(impl.RunDesk(d, strings.Repeat(" ", 15999)+"\n"))
	wantRun(t, "RunDesk of 15999 bytes", d, strings.Repeat("what\n", 15999))(impl.RunDesk(d, strings.Repeat("\n", 15999)))
	wantNoRun(t, "RunDesk of 16001 bytes")(impl.RunDesk(d, longest+"\n"))
	wantNoRun(t, "RunDesk of 16001 lines")(impl.RunDesk(d, strings.Repeat("\n", 16001)))
	wantNoRun(t, "RunDesk of one line of 16001 bytes")(impl.RunDesk(d, strings.Repeat(" ", 16000)+"\n"))
	wantNoRun(t, "RunDesk of 16000 bytes without a newline")(impl.RunDesk(d, strings.Repeat(" ", 16000)))
	wantNoRun(t, "RunDesk of very many bytes")(impl.RunDesk(d, strings.Repeat("mean\n", 100000)))
	// The limit of a script is none of its outputs.
	text := pictureText(d.Now) + "\n"
	wantRun(t, "RunDesk with long outputs", d, strings.Repeat(text, 2000))(impl.RunDesk(d, strings.Repeat("picture\n", 2000)))
}

func TestRunDeskFails(t *testing.T) {
	for what, bad := range badDesks() {
		for _, script := range []string{"", "\n", "mean\n", "picture 1,1;3f800000\n", "pages none\n", "curve 00000000,40800000;00000000,3f800000\n", "mean"} {
			wantNoRun(t, fmt.Sprintf("RunDesk %q at the desk with %s", script, what))(impl.RunDesk(bad, script))
		}
	}
}

func wantCounts(t *testing.T, what string, wantBad, wantGood int64, wantOK bool) func(int64, int64, bool) {
	return func(bad, good int64, ok bool) {
		t.Helper()
		if bad != wantBad || good != wantGood || ok != wantOK {
			t.Errorf("%s: got %d, %d, %v, want %d, %d, %v", what, bad, good, ok, wantBad, wantGood, wantOK)
		}
	}
}

func TestCountOutputs(t *testing.T) {
	for _, c := range []struct {
		text      string
		bad, good int64
		ok        bool
	}{
		{"", 0, 0, true},
		{"\n", 0, 1, true},
		{"\n\n\n", 0, 3, true},
		{"no\n", 1, 0, true},
		{"what\n", 1, 0, true},
		{"ok\n", 0, 1, true},
		{"no\nwhat\nok\nno\n3f800000\n", 3, 2, true},
		{"\nno\n\nwhat\n\n", 2, 3, true},
		{"no \n no\nno\r\nno\x00\nNo\nNO\nnone\nnot\nn\no\nn o\n", 0, 11, true},
		{"what \n what\nwhat?\nWhat\nwhatever\nwha\nhat\n", 0, 7, true},
		{"nowhat\nwhatno\nno what\nno,what\n", 0, 4, true},
		{"no\xff\n\xffno\n\xff\n\x00\n", 0, 4, true},
		{"no", 0, 0, false},
		{"what", 0, 0, false},
		{"ok", 0, 0, false},
		{" ", 0, 0, false},
		{"no\nno", 0, 0, false},
		{"no\n ", 0, 0, false},
		{"no\n\nok", 0, 0, false},
		{"\n\r", 0, 0, false},
		{strings.Repeat("\n", 16000), 0, 16000, true},
		{strings.Repeat("no\n", 5333) + "\n", 5333, 1, true},
		{strings.Repeat("what\n", 3200), 3200, 0, true},
		{strings.Repeat("x", 15999) + "\n", 0, 1, true},
		{strings.Repeat("what\n", 3200) + "\n", 0, 0, false},
		{strings.Repeat("\n", 16001), 0, 0, false},
		{strings.Repeat("no\n", 5334), 0, 0, false},
		{strings.Repeat("x", 16000), 0, 0, false},
		{strings.Repeat("x", 16000) + "\n", 0, 0, false},
		{strings.Repeat("no\n", 100000), 0, 0, false},
	} {
		wantCounts(t, fmt.Sprintf("CountOutputs %.60q of %d bytes", c.text, len(c.text)), c.bad, c.good, c.ok)(impl.CountOutputs(c.text))
	}
	for i, d := range desks() {
		for k, lines := range scripts() {
			if len(d.Now.Lights) > 9 {
				continue
			}
			_, outputs := ran(d, lines)
			bad := int64(0)
			for _, output := range strings.Split(outputs, "\n") {
				if output == "no" || output == "what" {
					bad++
				}
			}
			if len(outputs) <= 16000 {
				wantCounts(t, fmt.Sprintf("CountOutputs of the script %d at the desk %d", k, i), bad, int64(len(lines))-bad, true)(impl.CountOutputs(outputs))
			} else {
				wantCounts(t, fmt.Sprintf("CountOutputs of the long outputs of the script %d at the desk %d", k, i), 0, 0, false)(impl.CountOutputs(outputs))
			}
		}
	}
}
