package tests

import (
	"slices"
	"strings"
	"testing"

	"loop.example/g00092/impl"
)

// wantScript asks for all that ReadScript answers, and asks the model, too.
func wantScript(t *testing.T, text string, want []impl.Cmd, wantCode, wantLine int) {
	t.Helper()
	got, code, line := impl.ReadScript(text)
	if !sameCmds(got, want) || code != wantCode || line != wantLine {
		t.Errorf("ReadScript = %d commands %v, %d, %d, not %d commands, %d, %d, of %s", len(got), got, code, line, len(want), wantCode, wantLine, showText(text))
	}
	checkText(t, "a script", text)
}

// wantNoScript asks for a code, a line's number, and nothing else.
func wantNoScript(t *testing.T, text string, code, line int) {
	t.Helper()
	wantScript(t, text, nil, code, line)
}

// TestReadScriptLines asks where lines end, and which of them say nothing.
func TestReadScriptLines(t *testing.T) {
	end := impl.Cmd{Kind: impl.CmDayEnd}
	one, two := []impl.Cmd{end}, []impl.Cmd{end, cancelCmd(7)}
	cases := []struct {
		text string
		want []impl.Cmd
	}{
		{"", nil}, {"\n", nil}, {"\n\n\n", nil}, {" ", nil}, {" \n", nil}, {"\n ", nil}, {"#", nil}, {"#\n", nil}, {"# end", nil}, {"#end\n # cancel 7\n", nil}, {"  #\xff\t\n", nil},
		{"end", one}, {"end\n", one}, {"\nend", one}, {"\nend\n", one}, {"\n\n\nend\n\n\n", one}, {" end \n ", one}, {"# a note\nend\n# go", one}, {"#\nend\n#", one}, {"end\n ", one},
		{"end\ncancel 7", two}, {"end\ncancel 7\n", two}, {"end\n\ncancel 7\n", two}, {"\n end\n#x\n \n  cancel  7 \n\n", two}, {"#\n##\nend\n# cancel 8\ncancel 7", two},
	}
	for _, c := range cases {
		wantScript(t, c.text, c.want, impl.OK, 0)
	}
	sell := impl.Cmd{Kind: 1, Side: 2, Type: 1, Qty: 5, Price: 100}
	buy := withTag(withLife(impl.Cmd{Kind: 1, Side: 1, Type: 5, Qty: 2, Price: 99.75}), "#")
	wantScript(t, "sell limit 5 100.00\n\n# the next one is of a day\nbuy post 2 99.75 day tag #\nreduce 2 1\nend\nbuy market 9 -",
		[]impl.Cmd{sell, buy, reduceCmd(2, 1), end, {Kind: 1, Side: 1, Type: 2, Qty: 9}}, impl.OK, 0)
}

// noCommands are lines that say something, and are no command's.
func noCommands() []string {
	return []string{
		"go", "book", "tape", "end now", "end\t", "\tend", "end\r", "\r", "\t", "\x00", "\xff", "x#", "- #", "END", "cancel", "cancel 01", "reduce 1", "buy limit 5", "buy limit 5 1.5",
		"buy limit 5 1.00 tag a day", "buy limit 05 1.50", "sell stop 5 1.00", "buy limit 5 1.00 tag",
	}
}

// TestReadScriptOfAWrongLine lays wrong lines at each place, among lines that say nothing.
func TestReadScriptOfAWrongLine(t *testing.T) {
	right := []string{"end", "", "cancel 1", "# a note", " ", "buy limit 5 1.00", "reduce 1 2", "", "end"}
	for _, wrong := range noCommands() {
		for at := range len(right) + 1 {
			lines := slices.Insert(slices.Clone(right), at, wrong)
			wantNoScript(t, strings.Join(lines, "\n"), impl.ErrSyntax, at+1)
			wantNoScript(t, textOfLines(lines), impl.ErrSyntax, at+1)
			wantNoScript(t, textOfLines(append(lines, wrong, "go")), impl.ErrSyntax, at+1)
			wantNoScript(t, textOfLines(append([]string{"", "#"}, lines...)), impl.ErrSyntax, at+3)
		}
		wantNoScript(t, wrong, impl.ErrSyntax, 1)
		wantNoScript(t, wrong+"\n", impl.ErrSyntax, 1)
		wantNoScript(t, "\n"+wrong, impl.ErrSyntax, 2)
		wantNoScript(t, strings.Repeat("\n", 300)+wrong, impl.ErrSyntax, 301)
		wantNoScript(t, strings.Repeat("\n", 65500)+wrong, impl.ErrSyntax, 65501)
	}
}

// TestReadScriptOfMaxCmds counts commands, not lines.
func TestReadScriptOfMaxCmds(t *testing.T) {
	end := impl.Cmd{Kind: impl.CmDayEnd}
	for _, n := range []int{0, 1, 2, 199, 200} {
		want := slices.Repeat([]impl.Cmd{end}, n)
		wantScript(t, strings.Repeat("end\n", n), want, impl.OK, 0)
		wantScript(t, strings.Repeat("#\n\nend\n \n", n), want, impl.OK, 0)
		wantScript(t, strings.Repeat("\nend", n), want, impl.OK, 0)
		wantNoScript(t, strings.Repeat("end\n", n)+"go", impl.ErrSyntax, n+1)
		wantNoScript(t, strings.Repeat("end\n", n)+"\n\ngo\n", impl.ErrSyntax, n+3)
	}
	full := strings.Repeat("end\n", 200)
	for _, more := range []string{"end", "end\n", "cancel 1", "buy limit 1 1.00\n", "end\ngo\n", "end\nend\nend\n"} {
		wantNoScript(t, full+more, impl.ErrMany, 201)
		wantNoScript(t, full+"\n# a note\n"+more, impl.ErrMany, 203)
		wantNoScript(t, "\n"+full+more, impl.ErrMany, 202)
		wantNoScript(t, full+"go\n"+more, impl.ErrSyntax, 201)
		wantNoScript(t, full+"\ngo\n"+more, impl.ErrSyntax, 202)
		wantNoScript(t, "go\n"+full+more, impl.ErrSyntax, 1)
		wantNoScript(t, full[:4*100]+"book\n"+full[4*100:]+more, impl.ErrSyntax, 101)
	}
	for _, more := range []string{"", "\n", "#", "# end\n", " \n \n", "\n\n\n#\n"} {
		wantScript(t, full+more, slices.Repeat([]impl.Cmd{end}, 200), impl.OK, 0)
	}
	wantNoScript(t, strings.Repeat("end\n", 16384), impl.ErrMany, 201)
	wantNoScript(t, strings.Repeat("#\nend\n", 10000), impl.ErrMany, 402)
	wantNoScript(t, strings.Repeat("go\n", 20000), impl.ErrSyntax, 1)
}

// TestReadScriptOfMaxText has no line's number with ErrLong, and that code ahead of all others.
func TestReadScriptOfMaxText(t *testing.T) {
	for _, text := range []string{"", "end\n", "end\ncancel 3\n", "go\n", "#\n", strings.Repeat("end\n", 201), strings.Repeat("end\n", 200) + "go\n"} {
		for n := impl.MaxText - 1; n <= impl.MaxText+2; n++ {
			for _, fill := range []string{" ", "\n", "#"} {
				whole := text + strings.Repeat(fill, n-len(text))
				checkText(t, "a long text", whole)
				if n > impl.MaxText {
					wantNoScript(t, whole, impl.ErrLong, 0)
				}
			}
		}
	}
	wantScript(t, "end\n"+strings.Repeat(" ", impl.MaxText-7)+"end", []impl.Cmd{{Kind: 4}, {Kind: 4}}, impl.OK, 0)
	wantNoScript(t, "end\n"+strings.Repeat(" ", impl.MaxText-6)+"end", impl.ErrLong, 0)
	wantNoScript(t, strings.Repeat("x", impl.MaxText), impl.ErrSyntax, 1)
	wantNoScript(t, strings.Repeat("x", impl.MaxText+1), impl.ErrLong, 0)
	wantNoScript(t, strings.Repeat("end\n", 50000), impl.ErrLong, 0)
}

// TestReadScriptIsItsLines asks that a script's commands are those of its lines, whatever stands around them.
func TestReadScriptIsItsLines(t *testing.T) {
	p := picker{142}
	read, wrong := 0, 0
	for range 3000 {
		var lines []string
		var want []impl.Cmd
		wantCode, wantLine := impl.OK, 0
		for i := range p.below(25) {
			line := pickLine(&p)
			if p.below(30) > 0 && strings.Trim(line, " ") != "" {
				for _, code := impl.ReadCmd(line); code != impl.OK; _, code = impl.ReadCmd(line) {
					line = pickLine(&p)
				}
			}
			lines = append(lines, line)
			c, code := impl.ReadCmd(line)
			says := strings.Trim(line, " ") != "" && strings.TrimLeft(line, " ")[0] != '#'
			if code == impl.OK {
				want = append(want, c)
			} else if says && wantCode == impl.OK {
				wantCode, wantLine = code, i+1
			}
		}
		text := textOfLines(lines)
		if len(lines) > 0 && lines[len(lines)-1] != "" && p.below(2) == 0 {
			text = text[:len(text)-1]
		}
		if wantCode != impl.OK {
			want = nil
			wrong++
		} else {
			read += len(want)
		}
		wantScript(t, text, want, wantCode, wantLine)
		if t.Failed() {
			t.FailNow()
		}
	}
	if read < 5000 || wrong < 200 {
		t.Errorf("%d commands, %d wrong texts: the test asks too little", read, wrong)
	}
}
