package tests

import (
	"fmt"
	"strings"
	"testing"

	"loop.example/g00092/impl"
)

// textAsks are the calls of chapter 9 on texts.
func textAsks(text string) []ask {
	return []ask{
		{"ReadCmd", func() string {
			c, code := impl.ReadCmd(text)
			return fmt.Sprintln(cmdText(c), code)
		}},
		{"ReadScript", func() string {
			list, code, line := impl.ReadScript(text)
			return fmt.Sprintln(listText(list, cmdText), code, line)
		}},
		{"Desk", func() string {
			said, code := impl.Desk(text)
			return fmt.Sprintf("%q %d", said, code)
		}},
	}
}

// sayingAsks are the calls of chapter 9 on events and reasons.
func sayingAsks(e impl.Event) []ask {
	return []ask{
		{"EventText", func() string {
			said, code := impl.EventText(e)
			return fmt.Sprintf("%q %d", said, code)
		}},
		{"ReasonName", func() string { return fmt.Sprintf("%q", impl.ReasonName(e.Reason)) }},
	}
}

// someTexts are lines and whole texts, right, wrong and too long.
func someTexts() []string {
	p := picker{152}
	out := []string{"", " ", "#", "\n", "end", "book", "tape", "cancel 1", "reduce 1 1", "sell market 1 -", "buy limit 5 99.75 day tag desk", "go", "\xff", strings.Repeat("end\n", 200), strings.Repeat("end\n", 201), strings.Repeat("\n", 201)}
	for range 40 {
		out = append(out, pickLine(&p), textOfLines(pickText(&p, p.below(40))), textOfLines(scriptLines(pickScript(&p, p.below(60)))), string(p.bytes(p.below(40))))
	}
	return append(out, strings.Repeat(" ", impl.MaxText), strings.Repeat(" ", impl.MaxText+1), "end"+strings.Repeat("\n", impl.MaxText))
}

// someSayings are events of each kind and Reason, right and wrong.
func someSayings() []impl.Event {
	var out []impl.Event
	for kind := -1; kind <= kindsOfEvents+1; kind++ {
		out = append(out, plainEvent(kind), fullEvent(kind), impl.Event{Kind: kind, Reason: kind})
	}
	for reason := -1; reason <= impl.RfFull+1; reason++ {
		out = append(out, refuse(impl.Cmd{}, reason))
	}
	return append(out, refuse(impl.Cmd{}, leastInt), refuse(impl.Cmd{}, greatestInt))
}

// TestPromise1NewScripts spoils what was answered, and asks whether it shows in another answer.
func TestPromise1NewScripts(t *testing.T) {
	for _, text := range someTexts() {
		one, code, _ := impl.ReadScript(text)
		two, _, _ := impl.ReadScript(text)
		want := listText(one, cmdText)
		fill(one, impl.Cmd{Kind: -9, Tag: "spoiled"})
		if listText(two, cmdText) != want {
			t.Fatalf("two scripts share memory, of %s", showText(text))
		}
		if three, again, _ := impl.ReadScript(text); listText(three, cmdText) != want || again != code {
			t.Fatalf("ReadScript keeps the memory of its answers, of %s", showText(text))
		}
	}
}

// TestPromise1WhateverText has any bytes at all, and bytes that lines are made of.
func TestPromise1WhateverText(t *testing.T) {
	p := picker{153}
	pieces := []string{" ", "\n", "#", "buy", "sell", "limit", "market", "post", "1", "0", "-", ".", "1.00", "0.25", "day", "tag", "end", "book", "tape", "cancel", "reduce", " ", "\n", " 1", " 2 "}
	for range 20000 {
		var text strings.Builder
		for range p.below(25) {
			if p.below(9) == 0 {
				text.Write(p.bytes(1))
			} else {
				text.WriteString(pieces[p.below(len(pieces))])
			}
		}
		checkLine(t, text.String())
		checkText(t, "whatever text", text.String())
		raw := string(p.bytes(p.below(20)))
		checkLine(t, raw)
		checkText(t, "whatever bytes", raw)
	}
}

// TestPromise1WhateverSaying has events of any numbers at all.
func TestPromise1WhateverSaying(t *testing.T) {
	p := picker{154}
	n := func() int { return int(p.next()) >> p.below(64) }
	right := 0
	for range 20000 {
		e := impl.Event{Kind: p.below(kindsOfEvents+3) - 1, Cmd: anyCmd(&p), Id: n(), Other: n(), Qty: n(), Price: n(), Reason: n()}
		if p.below(3) > 0 {
			e = fullEvent(1 + p.below(kindsOfEvents))
			for _, name := range wholeFields {
				if tells(e.Kind, name) || p.below(40) == 0 {
					*field(&e, name) = n()
				}
			}
		}
		_, code := checkEventText(t, e)
		right += reasonIf(code == impl.OK, 1)
		if got := impl.ReasonName(e.Reason); got != wantReasonName(e.Reason) {
			t.Fatalf("ReasonName(%d) = %q", e.Reason, got)
		}
	}
	if right < 5000 {
		t.Errorf("%d events are right: the test asks too little", right)
	}
}
