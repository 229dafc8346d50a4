package tests

import (
	"fmt"
	"slices"
	"strings"
	"testing"

	"loop.example/g00092/impl"
)

func TestReasonNames(t *testing.T) {
	names := "kind form side type life price qty tag id more post fill full"
	for i, name := range strings.Fields(names) {
		if got := impl.ReasonName(i + 1); got != name {
			t.Errorf("reason %d is %q, not %q", i+1, got, name)
		}
	}
	for _, reason := range []int{0, -1, -2, -13, 14, 15, 255, 256, 257, 1 << 32, 1<<32 + 1, leastInt, leastInt + 1, greatestInt, greatestInt - 1} {
		if got := impl.ReasonName(reason); got != "" {
			t.Errorf("ReasonName(%d) = %q", reason, got)
		}
	}
}

// checkEventText asks EventText and the model.
func checkEventText(t *testing.T, e impl.Event) (string, int) {
	t.Helper()
	want, wantCode := wantEventText(e)
	got, code := impl.EventText(e)
	if got != want || code != wantCode {
		t.Fatalf("EventText = %q, %d, not %q, %d, of %s", got, code, want, wantCode, showEvent(e))
	}
	return got, code
}

// TestEventTextAsTold has its texts written out.
func TestEventTextAsTold(t *testing.T) {
	c := withTag(withLife(newCmd(1, impl.TyLimit, 5, 399)), "desk")
	cases := []struct {
		e    impl.Event
		want string
	}{
		{accept(7, c), "accept 7"},
		{refuse(c, impl.RfPost), "refuse post"},
		{refuse(impl.Cmd{}, impl.RfKind), "refuse kind"},
		{trade(7, 3, 20, 399), "trade 7 3 20 399"},
		{short(impl.EvRest, 7, 5), "rest 7 5"},
		{short(impl.EvDrop, 7, 5), "drop 7 5"},
		{short(impl.EvCancel, 7, 5), "cancel 7 5"},
		{short(impl.EvReduce, 7, 5), "reduce 7 5"},
		{short(impl.EvDayEnd, 0, 5), "end 5"},
		{short(impl.EvExpire, 7, 5), "expire 7 5"},
		{accept(-9223372036854775808, c), "accept -9223372036854775808"},
		{trade(9223372036854775807, -1, 0, -9223372036854775808), "trade 9223372036854775807 -1 0 -9223372036854775808"},
		{trade(1, 2, 3, 1000000), "trade 1 2 3 1000000"},
		{short(impl.EvDayEnd, 0, -9223372036854775808), "end -9223372036854775808"},
		{short(impl.EvExpire, -3, 9223372036854775807), "expire -3 9223372036854775807"},
		{short(impl.EvRest, 0, 0), "rest 0 0"},
		{refuse(c, 0), "refuse "},
		{refuse(c, 14), "refuse "},
		{refuse(c, -1), "refuse "},
		{refuse(c, leastInt), "refuse "},
		{refuse(c, greatestInt), "refuse "},
	}
	for _, one := range cases {
		if got, code := checkEventText(t, one.e); got != one.want || code != impl.OK {
			t.Errorf("EventText = %q, %d, not %q", got, code, one.want)
		}
	}
	for reason, name := range wantReasons {
		if got, code := checkEventText(t, refuse(cancelCmd(3), reason)); got != "refuse "+name || code != impl.OK {
			t.Errorf("EventText = %q, %d, of the reason %d", got, code, reason)
		}
	}
}

func TestEventTextOfAllEvents(t *testing.T) {
	seen := map[string]int{}
	for _, e := range rightEvents() {
		text, code := checkEventText(t, e)
		if code != impl.OK {
			t.Fatalf("EventText = %d, of %s", code, showEvent(e))
		}
		seen[strings.Fields(text)[0]]++
	}
	if len(seen) != kindsOfEvents {
		t.Errorf("%v: the test asks too little", seen)
	}
	for _, e := range append(wrongEvents(), impl.Event{}) {
		if text, code := checkEventText(t, e); text != "" || code != impl.ErrBad {
			t.Fatalf("EventText = %q, %d, of %s", text, code, showEvent(e))
		}
	}
}

// wantSaid asks for all that a desk says, and asks the model, too.
func wantSaid(t *testing.T, text, want string) {
	t.Helper()
	if got, code := checkDesk(t, "said", text); got != want || code != impl.OK {
		t.Errorf("Desk = %q, %d, not %q, of %s", got, code, want, showText(text))
	}
}

// wantSilent asks for a code and nothing else.
func wantSilent(t *testing.T, text string, code int) {
	t.Helper()
	if got, gotCode := checkDesk(t, "silent", text); got != "" || gotCode != code {
		t.Errorf("Desk = %s, %d, not %d, of %s", showText(got), gotCode, code, showText(text))
	}
}

// TestDeskAsTold has its answers written out.
func TestDeskAsTold(t *testing.T) {
	wantSaid(t, "tape\nsell limit 5 100.25\ncancel 1\ntape", "tape 15 50699\naccept 1\nrest 1 5\ncancel 1 5\ntape 44 46999\n")
	wantSaid(t, strings.Join([]string{
		"# a day at the desk", "book", "sell limit 5 100.25", "sell post 4 100.50 day tag of-a-day", "sell limit 3 100.00", "buy limit 6 100.25", "buy limit 1 1.00 tag longer-than-a-Tag-may-be",
		"buy ioc 9 100.25", "reduce 2 3", "buy limit 2 99.50", "buy limit 7 99.75", "buy limit 1 99.75 day", "book", "cancel 6", "end", "", "cancel 2", "go", "sell market 1 -", "buy fok 2 99.00", "reduce 7 0", "reduce 7 6",
		"sell limit 1 99.10", "buy market 1 1.00", "sell ioc 1 1.00 day", "sell limit 0 1.00", "book", "BOOK",
	}, "\n"), strings.Join([]string{
		"accept 1", "rest 1 5", "accept 2", "rest 2 4", "accept 3", "rest 3 3", "accept 4", "trade 4 3 3 400", "trade 4 1 3 401", "refuse tag",
		"accept 5", "trade 5 1 2 401", "drop 5 7", "reduce 2 3", "accept 6", "rest 6 2", "accept 7", "rest 7 7", "accept 8", "rest 8 1",
		"buy 399 8 2", "buy 398 2 1", "sell 402 3 1", "cancel 6 2", "end 2", "expire 2 3", "expire 8 1", "refuse id", "error syntax", "accept 9", "trade 9 7 1 399", "refuse fill", "refuse qty", "refuse more",
		"refuse price", "refuse price", "refuse life", "refuse qty", "buy 399 6 1", "error syntax", "",
	}, "\n"))
}

func TestDeskOfNothing(t *testing.T) {
	for _, text := range []string{"", "\n", "\n\n\n", " ", "  \n ", "#", "# buy", " #\n", "#x\n#y", "\n#\n \n", strings.Repeat("\n", 200), strings.Repeat("#", impl.MaxText), strings.Repeat(" ", impl.MaxText), "book", "book\n", " book ", "#\nbook\n\nbook\n"} {
		wantSaid(t, text, "")
	}
	for _, text := range []string{"tape", "tape\n", " tape", "tape  \n", "\n  tape\n", "# tape\ntape", "book\ntape\nbook"} {
		wantSaid(t, text, "tape 15 50699\n")
	}
}

// TestDeskOfWrongLines puts lines that are none's ahead of, between and behind right ones.
func TestDeskOfWrongLines(t *testing.T) {
	wrong := append(noCommands(), "book 1", "book book", "tape 1", "tape tape", "book #", "tape # x", "books", "tap", "Book", "TAPE", "book\t", "\ttape", "tape\r", "error", "error syntax", "accept 1", "rest 1 5", "trade 1 2 3 4")
	wrong = slices.DeleteFunc(wrong, func(line string) bool { return line == "book" || line == "tape" })
	for _, line := range wrong {
		wantSaid(t, line, "error syntax\n")
		wantSaid(t, line+"\n", "error syntax\n")
		wantSaid(t, line+"\n\n"+line+"\n#"+line, "error syntax\nerror syntax\n")
		wantSaid(t, line+"\nsell limit 5 100.00\n"+line+"\nbuy limit 2 100.00\n"+line+"\nbook\n"+line,
			"error syntax\naccept 1\nrest 1 5\nerror syntax\naccept 2\ntrade 2 1 2 400\nerror syntax\nsell 400 3 1\nerror syntax\n")
	}
}

// TestDeskOfEachReason has each reason that a line's command may be refused for.
func TestDeskOfEachReason(t *testing.T) {
	ahead := "sell limit 5 1.00\n"
	for line, reason := range map[string]string{
		"buy ioc 1 1.00 day":                         "life",
		"buy market 1 - day":                         "life",
		"buy fok 1 1.00 day":                         "life",
		"buy limit 1 -":                              "price",
		"buy limit 1 0.00":                           "price",
		"buy limit 1 0.10":                           "price",
		"buy limit 1 250000.25":                      "price",
		"buy market 1 1.00":                          "price",
		"buy limit 0 1.00":                           "qty",
		"buy limit -1 1.00":                          "qty",
		"buy limit 1000001 1.00":                     "qty",
		"reduce 1 0":                                 "qty",
		"buy limit 1 1.00 tag 1234567890123":         "tag",
		"buy limit 1 1.00 tag \x7f":                  "tag",
		"buy limit 1 1.00 tag \t":                    "tag",
		"buy limit 1 1.00 tag \xff":                  "tag",
		"cancel 0":                                   "id",
		"cancel 2":                                   "id",
		"cancel -1":                                  "id",
		"reduce 2 1":                                 "id",
		"reduce 1 5":                                 "more",
		"reduce 1 6":                                 "more",
		"buy post 1 1.00":                            "post",
		"buy fok 6 1.00":                             "fill",
		"buy fok 1 0.75":                             "fill",
		"buy ioc 0 0.10 day tag 1234567890123":       "life",
		"buy limit 0 0.10 day tag 1234567890123":     "price",
		"buy limit 0 1.00 day tag 1234567890123":     "qty",
		"reduce 7 1000001":                           "qty",
		"reduce 7 999999999999999999":                "qty",
		"buy limit -999999999999999999 999999999.99": "price",
	} {
		wantSaid(t, ahead+line+"\nbook", "accept 1\nrest 1 5\nrefuse "+reason+"\nsell 4 5 1\n")
	}
	wantSaid(t, ahead+"buy market 1 0.00", "accept 1\nrest 1 5\naccept 2\ntrade 2 1 1 4\n")
	orders := strings.Repeat("buy limit 1 1.00\n", impl.MaxOrders+1)
	said, _ := checkDesk(t, "many orders", orders+"book")
	if !strings.HasSuffix(said, "accept 20\nrest 20 1\nrefuse full\nbuy 4 20 20\n") {
		t.Errorf("Desk = %s", showText(said))
	}
	var levels strings.Builder
	for i := range impl.MaxLevels + 1 {
		fmt.Fprintf(&levels, "sell limit 1 %d.25\n", 10-i)
	}
	said, _ = checkDesk(t, "many levels", levels.String()+"book")
	if !strings.HasSuffix(said, "accept 8\nrest 8 1\nrefuse full\nsell 13 1 1\nsell 17 1 1\nsell 21 1 1\nsell 25 1 1\nsell 29 1 1\nsell 33 1 1\nsell 37 1 1\nsell 41 1 1\n") {
		t.Errorf("Desk = %s", showText(said))
	}
}

// TestDeskBook has the levels of both sides as they trade.
func TestDeskBook(t *testing.T) {
	text := "sell limit 5 2.00\nsell limit 1 1.75\nsell post 2 2.00\nbuy limit 3 1.00\nbuy limit 4 1.25\nbuy limit 6 1.00 day\nbook"
	levels := "buy 5 4 1\nbuy 4 9 2\nsell 7 1 1\nsell 8 7 2\n"
	said, _ := checkDesk(t, "book", text)
	if !strings.HasSuffix(said, "\nrest 6 6\n"+levels) {
		t.Errorf("Desk = %s", showText(said))
	}
	again, _ := checkDesk(t, "book", text+"\nbook\n\n book \nbook")
	if again != said+levels+levels+levels {
		t.Errorf("Desk = %s", showText(again))
	}
	wantSaid(t, text+"\nend\nbook", said+"end 1\nexpire 6 6\nbuy 5 4 1\nbuy 4 3 1\nsell 7 1 1\nsell 8 7 2\n")
	wantSaid(t, text+"\nbuy market 20 -\nbook", said+"accept 7\ntrade 7 2 1 7\ntrade 7 1 5 8\ntrade 7 3 2 8\ndrop 7 12\nbuy 5 4 1\nbuy 4 9 2\n")
	wantSaid(t, text+"\nreduce 1 1\ncancel 4\nbook", said+"reduce 1 1\ncancel 4 3\nbuy 5 4 1\nbuy 4 6 1\nsell 7 1 1\nsell 8 3 2\n")
	wantSaid(t, "buy limit 1000000 250000.00\nbook", "accept 1\nrest 1 1000000\nbuy 1000000 1000000 1\n")
}

// TestDeskTape asks that a tape has the commands so far, the refused ones too, and no other line.
func TestDeskTape(t *testing.T) {
	p := picker{143}
	for range 60 {
		var list []impl.Cmd
		var text, want strings.Builder
		for _, line := range scriptLines(pickScript(&p, p.below(60))) {
			c, _ := impl.ReadCmd(line)
			list = append(list, c)
			log, _ := impl.RunScript(list)
			text.WriteString(line + "\ntape\n")
			for _, e := range log.Groups[len(list)-1] {
				said, _ := impl.EventText(e)
				want.WriteString(said + "\n")
			}
			tape, _ := impl.TapeOf(list)
			fmt.Fprintf(&want, "tape %d %d\n", len(tape), impl.SumOf(tape, 1))
			switch p.below(6) {
			case 0:
				text.WriteString("go\n")
				want.WriteString("error syntax\n")
			case 1:
				text.WriteString("# end\n\n")
			}
		}
		if len(wantLines(text.String())) <= impl.MaxCmds {
			wantSaid(t, text.String(), want.String())
		} else {
			wantSilent(t, text.String(), impl.ErrMany)
		}
	}
}

// TestDeskOfMaxCmdsLines counts all lines, those that say nothing too.
func TestDeskOfMaxCmdsLines(t *testing.T) {
	for _, line := range []string{"end", "", "#", " ", "go", "book", "tape", "cancel 1", "buy limit 1 1.00"} {
		for _, n := range []int{1, 199, 200, 201, 202, 1000} {
			text := strings.Repeat(line+"\n", n)
			said, code := checkDesk(t, "so many lines", text)
			if code != reasonIf(n > 200, impl.ErrMany) || n > 200 && said != "" {
				t.Errorf("Desk = %s, %d, of %d lines %q", showText(said), code, n, line)
			}
			said, code = checkDesk(t, "without a last byte 10", text[:len(text)-1])
			// An empty line without its byte 10 is none.
			count := n - reasonIf(line == "", 1)
			if code != reasonIf(count > 200, impl.ErrMany) || code != impl.OK && said != "" {
				t.Errorf("Desk = %s, %d, of %d lines %q without the last byte 10", showText(said), code, n, line)
			}
		}
	}
	wantSaid(t, strings.Repeat("end\n", 200), strings.Repeat("end 0\n", 200))
	wantSaid(t, strings.Repeat("\n", 199)+"end", "end 0\n")
	wantSaid(t, "end\n"+strings.Repeat("\n", 199), "end 0\n")
	wantSilent(t, "end\n"+strings.Repeat("\n", 200), impl.ErrMany)
	wantSilent(t, strings.Repeat("\n", 200)+"end", impl.ErrMany)
	wantSilent(t, strings.Repeat("end\n", 200)+" ", impl.ErrMany)
	wantSilent(t, strings.Repeat("end\n", 200)+"#", impl.ErrMany)
	wantSilent(t, strings.Repeat("end\n", 200)+"\n", impl.ErrMany)
	wantSilent(t, strings.Repeat("#\nend\n", 100)+"go", impl.ErrMany)
	wantSaid(t, strings.Repeat("#\nend\n", 100), strings.Repeat("end 0\n", 100))
	wantSaid(t, strings.Repeat("go\nend\n", 100), strings.Repeat("error syntax\nend 0\n", 100))
}

// TestDeskOfMaxText has the code of length ahead of the one of lines.
func TestDeskOfMaxText(t *testing.T) {
	for _, text := range []string{"", "end\n", "sell limit 1 1.00\nbook\ntape\n", "go\n"} {
		said, _ := wantDesk(text)
		for n := impl.MaxText - 1; n <= impl.MaxText+2; n++ {
			whole := text + strings.Repeat(" ", n-len(text))
			if n > impl.MaxText {
				wantSilent(t, whole, impl.ErrLong)
			} else {
				wantSaid(t, whole, said)
			}
		}
	}
	wantSilent(t, strings.Repeat("\n", impl.MaxText), impl.ErrMany)
	wantSilent(t, strings.Repeat("\n", impl.MaxText+1), impl.ErrLong)
	wantSilent(t, strings.Repeat("end\n", 50000), impl.ErrLong)
	wantSilent(t, strings.Repeat("x", impl.MaxText+1), impl.ErrLong)
	wantSaid(t, strings.Repeat("x", impl.MaxText), "error syntax\n")
	long := "buy limit 1 1.00 tag "
	wantSaid(t, long+strings.Repeat("w", impl.MaxText-len(long)), "refuse tag\n")
	wantSilent(t, long+strings.Repeat("w", impl.MaxText+1-len(long)), impl.ErrLong)
}

// pickText is lines of which most are commands'.
func pickText(p *picker, n int) []string {
	var lines []string
	orders := scriptLines(pickScript(p, n))
	for len(lines) < n {
		if len(orders) > 0 && p.below(4) > 0 {
			lines, orders = append(lines, orders[0]), orders[1:]
		} else {
			lines = append(lines, pickLine(p))
		}
		if p.below(9) == 0 {
			lines = append(lines, []string{"book", "tape", "book"}[p.below(3)])
		}
	}
	return lines
}

// TestPromise15EventsOfCommands asks that a desk says the texts of the events of its commands, and nothing else.
func TestPromise15EventsOfCommands(t *testing.T) {
	p := picker{144}
	kinds, reasons := map[int]int{}, map[string]int{}
	for range 150 {
		text := textOfLines(scriptLines(pickScript(&p, p.below(impl.MaxCmds+1))))
		list, code, _ := impl.ReadScript(text)
		if code != impl.OK {
			t.Fatalf("ReadScript = %d, of %s", code, showText(text))
		}
		log, _ := impl.RunScript(list)
		var want strings.Builder
		for _, e := range slices.Concat(log.Groups...) {
			said, code := impl.EventText(e)
			if code != impl.OK {
				t.Fatalf("EventText = %d, of %s", code, showEvent(e))
			}
			want.WriteString(said + "\n")
			kinds[e.Kind]++
			reasons[impl.ReasonName(e.Reason)]++
		}
		wantSaid(t, text, want.String())
	}
	if len(kinds) != kindsOfEvents || len(reasons) < 9 {
		t.Errorf("%v, %v: the test asks too little", kinds, reasons)
	}
}

// TestPromise15FirstLines asks that what first lines say does not hang on later ones.
func TestPromise15FirstLines(t *testing.T) {
	p := picker{145}
	for range 60 {
		lines := pickText(&p, 1+p.below(60))
		whole, code := checkDesk(t, "whole", textOfLines(lines))
		if code != impl.OK {
			t.Fatalf("Desk = %d, of %d lines", code, len(lines))
		}
		last := ""
		for n := range len(lines) + 1 {
			said, code := impl.Desk(textOfLines(lines[:n]))
			if code != impl.OK || !strings.HasPrefix(whole, said) || !strings.HasPrefix(said, last) {
				t.Fatalf("the first %d lines say %s, %d, all say %s", n, showText(said), code, showText(whole))
			}
			last = said
			others, code := impl.Desk(textOfLines(append(slices.Clone(lines[:n]), pickText(&p, 3)...)))
			if code != impl.OK || !strings.HasPrefix(others, said) {
				t.Fatalf("the first %d lines say %s, with others behind them %s, %d", n, showText(said), showText(others), code)
			}
		}
		if last != whole {
			t.Fatalf("all lines say %s, then %s", showText(whole), showText(last))
		}
	}
}

// TestPromise15LinesThatDoNothing asks that questions, wrong lines and lines that say nothing change no other answer.
func TestPromise15LinesThatDoNothing(t *testing.T) {
	p := picker{146}
	idle := append(noCommands(), "", " ", "#", "# end", "book", "tape", "book x")
	for range 40 {
		lines := scriptLines(pickScript(&p, p.below(90)))
		var mixed []string
		var want strings.Builder
		for n, line := range lines {
			mixed = append(mixed, line)
			before, _ := impl.Desk(textOfLines(lines[:n]))
			with, _ := impl.Desk(textOfLines(lines[:n+1]))
			want.WriteString(strings.TrimPrefix(with, before))
			if p.below(2) == 0 {
				added := idle[p.below(len(idle))]
				mixed = append(mixed, added)
				answer, _ := impl.Desk(textOfLines(append(slices.Clone(lines[:n+1]), added)))
				want.WriteString(strings.TrimPrefix(answer, with))
			}
		}
		wantSaid(t, textOfLines(mixed), want.String())
	}
}

func TestDeskOfAnyText(t *testing.T) {
	p := picker{147}
	words := map[string]int{}
	for range 1500 {
		text := textOfLines(pickText(&p, p.below(50)))
		if p.below(3) == 0 {
			b := []byte(text)
			for range p.below(4) {
				if len(b) > 0 {
					b[p.below(len(b))] = byte(p.next())
				}
			}
			text = string(b)
		}
		if p.below(2) == 0 {
			text = strings.TrimSuffix(text, "\n")
		}
		checkText(t, "any text", text)
		said, _ := impl.Desk(text)
		for _, line := range wantLines(said) {
			words[strings.Fields(line)[0]]++
		}
	}
	for _, word := range []string{"accept", "refuse", "trade", "rest", "drop", "cancel", "reduce", "end", "expire", "buy", "sell", "tape", "error"} {
		if words[word] < 100 {
			t.Errorf("%v: the test asks too little", words)
		}
	}
}
