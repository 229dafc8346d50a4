package tests

import (
	"fmt"
	"math"
	"testing"

	"loop.example/g00092/impl"
)

func groupText(group []impl.Event) string { return "[" + listText(group, eventText) + "]" }

func groupsText(groups [][]impl.Event) string { return listText(groups, groupText) }

func logText(log impl.RunLog) string {
	return fmt.Sprintln(groupsText(log.Groups), bookText(log.Book), log.Totals)
}

// stepAsks are the calls of chapter 5 on a book and a command.
func stepAsks(b impl.Book, c impl.Cmd) []ask {
	return []ask{
		{"ReasonOf", func() string { return fmt.Sprintln(impl.ReasonOf(b, c)) }},
		{"StepBook", func() string {
			after, group, code := impl.StepBook(b, c)
			return fmt.Sprintln(bookText(after), groupText(group), code)
		}},
	}
}

func groupsAsks(groups [][]impl.Event) []ask {
	return []ask{{"TotalsOf", func() string { return fmt.Sprintln(impl.TotalsOf(groups)) }}}
}

// someStepCmds trade with most books of someBooks, rest in them, and take orders out of them.
func someStepCmds(seed int) []impl.Cmd {
	p := picker{uint64(72 + seed)}
	return []impl.Cmd{
		newCmd(impl.SdBuy, impl.TyMarket, 60, 0),
		newCmd(impl.SdSell, impl.TyMarket, impl.MaxQty, 0),
		newCmd(impl.SdBuy, impl.TyLimit, 70, 29),
		newCmd(impl.SdSell, impl.TyPost, 1, 60),
		cancelCmd(1 + p.below(4)),
		reduceCmd(1+p.below(4), 1),
		{Kind: impl.CmDayEnd},
		wildCmd(&p),
	}
}

// someGroups are lawful ones, others, none at all and too many.
func someGroups() [][][]impl.Event {
	p := picker{73}
	told := wantRun(toldScript()).Groups
	out := [][][]impl.Event{nil, {}, {nil}, {{}}, {{{}}}, told, told[1:], make([][]impl.Event, impl.MaxCmds+1), make([][]impl.Event, impl.MaxList+1)}
	for range 10 {
		groups := wantRun(pickScript(&p, 50)).Groups
		spoiled := cloneGroups(groups)
		spoilGroups(&p, spoiled)
		out = append(out, groups, spoiled)
	}
	return out
}

// TestPromise1StepsLeaveBooks lays the orders of books into the middle of greater lists.
func TestPromise1StepsLeaveBooks(t *testing.T) {
	for i, b := range someBooks() {
		edge := impl.Order{Id: -7, Tag: "an edge that is longer than a Tag"}
		whole := append(append([]impl.Order{edge, edge}, b.Orders...), edge, edge)
		was := listText(whole, orderText)
		b.Orders = whole[2 : 2+len(b.Orders)]
		for _, c := range someStepCmds(i) {
			for _, a := range stepAsks(b, c) {
				a.call()
				if listText(whole, orderText) != was {
					t.Fatalf("%s wrote into the orders of a book or around them, of %s", a.name, showCmd(c))
				}
			}
		}
	}
}

// TestPromise1GroupsStay lays groups, and the events of each, into the middle of greater lists.
func TestPromise1GroupsStay(t *testing.T) {
	edge := impl.Event{Kind: -7, Cmd: impl.Cmd{Tag: "an edge that is longer than a Tag"}}
	for _, groups := range someGroups() {
		whole := [][]impl.Event{{edge}}
		var wholes [][]impl.Event
		for _, group := range groups {
			events := append(append([]impl.Event{edge}, group...), edge)
			wholes = append(wholes, events)
			whole = append(whole, events[1:1+len(group)])
		}
		whole = append(whole, []impl.Event{edge})
		was := groupsText(whole) + groupsText(wholes)
		for _, a := range groupsAsks(whole[1 : 1+len(groups)]) {
			a.call()
			if groupsText(whole)+groupsText(wholes) != was {
				t.Fatalf("%s wrote into its groups or around them", a.name)
			}
		}
	}
}

// TestPromise1NewSteps spoils what was answered, and what was given, and asks whether it shows in the other.
func TestPromise1NewSteps(t *testing.T) {
	badOrder, badEvent := impl.Order{Id: -9, Tag: "spoiled"}, impl.Event{Kind: -9}
	for i, b := range someBooks() {
		for _, c := range someStepCmds(i) {
			given := impl.Book{Next: b.Next, Orders: append(make([]impl.Order, 0, len(b.Orders)+3), b.Orders...)}
			was := listText(given.Orders[:cap(given.Orders)], orderText)
			one, oneGroup, _ := impl.StepBook(given, c)
			two, twoGroup, _ := impl.StepBook(given, c)
			want := bookText(two) + groupText(twoGroup)
			fill(one.Orders, badOrder)
			fill(oneGroup, badEvent)
			if listText(given.Orders[:cap(given.Orders)], orderText) != was {
				t.Fatalf("a book shares memory with the book behind it, of %s and %s", showCmd(c), showBook(b))
			}
			fill(given.Orders, badOrder)
			if bookText(two)+groupText(twoGroup) != want {
				t.Fatalf("an answer shares memory with its book or another answer, of %s and %s", showCmd(c), showBook(b))
			}
		}
	}
}

// TestPromise1NewRuns spoils each list of a run, behind its end too, and asks whether it shows in the others.
func TestPromise1NewRuns(t *testing.T) {
	p := picker{74}
	for range 10 {
		list := pickScript(&p, 60)
		given := append(make([]impl.Cmd, 0, len(list)+3), list...)
		log, _ := impl.RunScript(given)
		again, _ := impl.RunScript(given)
		want := logText(again)
		fill(given, impl.Cmd{Kind: -9, Tag: "spoiled"})
		if logText(log) != want {
			t.Fatal("a run shares memory with its script")
		}
		for i, group := range log.Groups {
			fill(group, impl.Event{Kind: -i - 9})
			for k, other := range log.Groups {
				if k > i && !sameEvents(other, again.Groups[k]) {
					t.Fatalf("groups %d and %d share memory", i, k)
				}
			}
		}
		if bookText(log.Book) != bookText(again.Book) {
			t.Fatal("the book of a run shares memory with its groups")
		}
		fill(log.Groups, nil)
		fill(log.Book.Orders, impl.Order{Id: -9})
		if logText(again) != want {
			t.Fatal("two runs share memory")
		}
	}
}

// anyCmd has any numbers at all.
func anyCmd(p *picker) impl.Cmd {
	n := func() int { return int(p.next()) >> p.below(64) }
	c := wildCmd(p)
	switch p.below(3) {
	case 0:
		c = impl.Cmd{Kind: n(), Side: n(), Type: n(), Life: n(), Qty: n(), Id: n(), Price: math.Float64frombits(p.next()), Tag: string(p.bytes(p.below(16)))}
	case 1:
		c.Qty, c.Price = n(), math.Float64frombits(p.next())
	}
	return c
}

func TestPromise1WhateverStep(t *testing.T) {
	p := picker{75}
	for range 20000 {
		b, c := pickBook(&p), anyCmd(&p)
		if p.below(4) == 0 {
			b = spoilBook(&p, b)
		}
		if wantBookOK(b) {
			checkStep(t, "whatever step", b, c)
			continue
		}
		if reason, code := impl.ReasonOf(b, c); reason != 0 || code != impl.ErrBad {
			t.Fatalf("ReasonOf = %d, %d, of %s and %s", reason, code, showCmd(c), showBook(b))
		}
		if after, group, code := impl.StepBook(b, c); code != impl.ErrBad || len(group) != 0 || !sameBook(after, impl.Book{}) {
			t.Fatalf("StepBook = %s,%s, %d, of %s and %s", showBook(after), showGroup(group), code, showCmd(c), showBook(b))
		}
	}
}

// TestPromise1WhateverGroups has events of any numbers at all.
func TestPromise1WhateverGroups(t *testing.T) {
	p := picker{76}
	for range 3000 {
		groups := make([][]impl.Event, p.below(6))
		for i := range groups {
			for range p.below(4) {
				e := impl.Event{Kind: p.below(12) - 1, Cmd: anyCmd(&p)}
				for _, name := range wholeFields[6:] {
					*field(&e, name) = int(p.next()) >> p.below(64)
				}
				groups[i] = append(groups[i], e)
			}
		}
		checkTotals(t, "whatever groups", groups)
	}
}
