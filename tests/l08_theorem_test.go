package tests

import (
	"bytes"
	"fmt"
	"math"
	"slices"
	"strings"
	"testing"

	"loop.example/g00092/impl"
)

// checkTheorem goes the whole round of promise 16: script, tape, verdict, extract, run again.
func checkTheorem(t *testing.T, name string, list []impl.Cmd) impl.RunLog {
	t.Helper()
	log, runCode := impl.RunScript(list)
	tape, tapeCode := impl.TapeOf(list)
	verdict, judgeCode := impl.Judge(tape)
	told, extractCode := impl.Extract(tape)
	again, againCode := impl.RunScript(told)
	if codes := []int{runCode, tapeCode, judgeCode, extractCode, againCode}; !slices.Equal(codes, make([]int, 5)) {
		t.Fatalf("%s: the codes are %v, of %d commands", name, codes, len(list))
	}
	if verdict != (impl.Verdict{Lawful: true}) {
		t.Fatalf("%s: the verdict is %+v, of %s", name, verdict, showBytes(tape))
	}
	if !sameGroups(again.Groups, log.Groups) {
		t.Fatalf("%s: run again the groups are%s, not%s", name, showGroups(again.Groups), showGroups(log.Groups))
	}
	if !sameBook(again.Book, log.Book) || again.Totals != log.Totals {
		t.Fatalf("%s: run again it comes to %s, %+v, not %s, %+v", name, showBook(again.Book), again.Totals, showBook(log.Book), log.Totals)
	}
	twice, code := impl.TapeOf(told)
	if !bytes.Equal(twice, tape) || code != impl.OK {
		t.Fatalf("%s: the tape of what is extracted is %s, %d, not %s", name, showBytes(twice), code, showBytes(tape))
	}
	checkBooksOnTheWay(t, name, log)
	checkScript(t, name, list)
	return log
}

// checkBooksOnTheWay applies the groups one behind the other, and sets their totals against those of the run.
func checkBooksOnTheWay(t *testing.T, name string, log impl.RunLog) {
	t.Helper()
	b := impl.Book{Next: 1}
	for _, group := range log.Groups {
		var rule, code int
		if b, rule, code = impl.Apply(b, group); code != impl.OK {
			t.Fatalf("%s: Apply = %d, %d, of%s", name, rule, code, showGroup(group))
		}
	}
	totals, code := impl.TotalsOf(log.Groups)
	if !sameBook(b, log.Book) || totals != log.Totals || code != impl.OK {
		t.Fatalf("%s: the groups come to %s, %+v, %d, not %s, %+v", name, showBook(b), totals, code, showBook(log.Book), log.Totals)
	}
}

// everyReason has a command that is refused for each reason, and every kind of command beside them.
func everyReason() []impl.Cmd {
	limit := newCmd(1, impl.TyLimit, 2, 400)
	with := func(change func(*impl.Cmd)) impl.Cmd {
		c := limit
		change(&c)
		return c
	}
	list := []impl.Cmd{
		limit, withLife(newCmd(1, impl.TyPost, 5, 399)), newCmd(2, impl.TyLimit, 7, 401),
		{}, {Kind: 5, Price: math.NaN(), Tag: "of no kind"}, {Kind: leastInt},
		{Kind: impl.CmCancel, Id: 1, Price: minusNought}, with(func(c *impl.Cmd) { c.Id = 1 }), {Kind: impl.CmDayEnd, Tag: someText(30)},
		with(func(c *impl.Cmd) { c.Side = 3 }),
		with(func(c *impl.Cmd) { c.Type = greatestInt }),
		with(func(c *impl.Cmd) { c.Type, c.Life = impl.TyFok, impl.LfDay }),
		with(func(c *impl.Cmd) { c.Price = math.Inf(1) }), with(func(c *impl.Cmd) { c.Price = math.NaN() }),
		with(func(c *impl.Cmd) { c.Qty = impl.MaxQty + 1 }), reduceCmd(1, 0),
		withTag(limit, "longer than a Tag may be"), withTag(limit, "\x7f"), withTag(limit, someText(13)),
		cancelCmd(99), reduceCmd(0, 1),
		reduceCmd(1, 2),
		newCmd(1, impl.TyPost, 1, 401),
		newCmd(1, impl.TyFok, 8, 401),
		reduceCmd(1, 1), newCmd(2, impl.TyIoc, 3, 400), newCmd(1, impl.TyMarket, 1, 0), newCmd(2, impl.TyFok, 2, 399), {Kind: impl.CmDayEnd}, cancelCmd(3),
	}
	for range impl.MaxOrders + 1 {
		list = append(list, withLife(newCmd(2, impl.TyLimit, 3, 500)))
	}
	return append(list, impl.Cmd{Kind: impl.CmDayEnd}, newCmd(1, impl.TyMarket, 4, 0))
}

func TestPromise16EveryReason(t *testing.T) {
	list := everyReason()
	log := checkTheorem(t, "every reason", list)
	reasons, kinds, events := map[int]int{}, map[int]int{}, map[int]int{}
	for i, group := range log.Groups {
		reasons[group[0].Reason]++
		kinds[list[i].Kind*reasonIf(group[0].Reason == 0, 1)]++
		for _, e := range group {
			events[e.Kind]++
		}
	}
	if len(reasons) != impl.RfFull+1 || len(kinds) != 5 || len(events) != kindsOfEvents {
		t.Errorf("%v, %v, %v: the test asks too little", reasons, kinds, events)
	}
	for n := range list {
		checkTheorem(t, "the first ones", list[:n])
		checkTheorem(t, "the last ones", list[n:])
		checkTheorem(t, "one alone", list[n:n+1])
	}
}

// TestPromise16HowMany goes over the edges of how many commands there are.
func TestPromise16HowMany(t *testing.T) {
	p := picker{148}
	all := everyReason()
	full := slices.Concat(all, all, all, all, all)[:impl.MaxCmds]
	for _, list := range [][]impl.Cmd{nil, {}, full[:1], full[:199], full, pickScript(&p, impl.MaxCmds), make([]impl.Cmd, impl.MaxCmds), slices.Repeat([]impl.Cmd{{Kind: impl.CmDayEnd}}, impl.MaxCmds)} {
		checkTheorem(t, "so many", list)
	}
	for _, n := range []int{impl.MaxCmds + 1, impl.MaxList, impl.MaxList + 1} {
		list := slices.Repeat([]impl.Cmd{{Kind: impl.CmDayEnd}}, n)
		tape, tapeCode := impl.TapeOf(list)
		log, runCode := impl.RunScript(list)
		if want := impl.ErrMany - reasonIf(n > impl.MaxList, impl.ErrMany-impl.ErrLong); tapeCode != want || runCode != want || len(tape) != 0 || len(log.Groups) != 0 {
			t.Errorf("%d commands: %d, %d, %d bytes, %d groups", n, tapeCode, runCode, len(tape), len(log.Groups))
		}
	}
}

// checkDeskRound asks that a desk, the script that it reads, its tape and what is extracted from that tell the same.
func checkDeskRound(t *testing.T, name, text string) impl.RunLog {
	t.Helper()
	list, code, line := impl.ReadScript(text)
	if code != impl.OK || line != 0 {
		t.Fatalf("%s: ReadScript = %d, %d, of %s", name, code, line, showText(text))
	}
	log := checkTheorem(t, name, list)
	tape, _ := impl.TapeOf(list)
	said := wantGroupLines(slices.Concat(wantJudged(tape).groups...))
	if len(wantLines(text)) <= impl.MaxCmds {
		wantSaid(t, text, said)
	}
	// What is extracted may have no line: a line's Tag may be long, a tape's is cut.
	told, _ := impl.Extract(tape)
	lines := scriptLines(told)
	if len(lines) != len(told) {
		t.Fatalf("%s: %d of %d commands have a line", name, len(lines), len(told))
	}
	wantSaid(t, textOfLines(lines), said)
	if len(lines) < impl.MaxCmds {
		wantSaid(t, textOfLines(append(lines, "tape")), fmt.Sprintf("%stape %d %d\n", said, len(tape), wantSum(tape, 1)))
	}
	return log
}

func TestPromise16Desk(t *testing.T) {
	checkDeskRound(t, "no line", "")
	checkDeskRound(t, "lines that say nothing", "\n# end\n \n")
	checkDeskRound(t, "a long Tag", "buy limit 1 1.00 tag longer-than-a-Tag-may-be\nbuy limit 1 1.00 tag 123456789012\nbuy limit 1 1.00 tag \xff\xfe\nbuy limit 1 1.00 tag \t")
	checkDeskRound(t, "a day", "buy limit 5 1.00 day\nsell post 2 1.25 day tag x\nbuy limit 1 0.75\nend\nend\nsell market 9 -\n")
	checkDeskRound(t, "MaxCmds commands", strings.Repeat("buy limit 3 1.00 day\nsell ioc 5 0.75\nreduce 1 2\nend\n", 50))
	checkDeskRound(t, "MaxCmds commands and more lines", strings.Repeat("buy limit 3 1.00 day\n\nsell ioc 2 0.75\n# end\nreduce 1 2\nend\n", 50))
	p := picker{149}
	var seen impl.Totals
	for range 60 {
		log := checkDeskRound(t, "any script", textOfLines(scriptLines(pickScript(&p, p.below(impl.MaxCmds+1)))))
		seen.Accepted += log.Totals.Accepted
		seen.Refused += log.Totals.Refused
		seen.Trades += log.Totals.Trades
	}
	if seen.Accepted < 1500 || seen.Refused < 200 || seen.Trades < 300 {
		t.Errorf("%+v: the test asks too little", seen)
	}
}

// TestPromise16SpoiledTapes asks that a tape of which a byte is another one explains nothing.
func TestPromise16SpoiledTapes(t *testing.T) {
	list, _, _ := impl.ReadScript("buy limit 5 1.00 day tag a\nsell limit 7 1.00\nbuy fok 9 1.00\nend\ncancel 2")
	tape, _ := impl.TapeOf(list)
	checkTheorem(t, "unspoiled", list)
	for at := range tape {
		for _, change := range []byte{1, 2, 64, 128, 255} {
			wrong := bytes.Clone(tape)
			wrong[at] ^= change
			told, code := impl.Extract(wrong)
			if checkTape(t, "spoiled", wrong); len(told) != 0 || code != impl.ErrLawless {
				t.Fatalf("Extract = %v, %d, of %s", told, code, showBytes(wrong))
			}
		}
		if told, code := impl.Extract(tape[:at]); len(told) != 0 || code != impl.ErrLawless {
			t.Fatalf("Extract = %v, %d, of %s", told, code, showBytes(tape[:at]))
		}
	}
}
