package tests

import (
	"fmt"
	"slices"
	"testing"

	"loop.example/g00092/impl"
)

// ruleAsks are the calls of chapter 6 on a book and events.
func ruleAsks(b impl.Book, events []impl.Event, e impl.Event) []ask {
	return []ask{
		{"DueOf", func() string { return fmt.Sprintln(impl.DueOf(b, events)) }},
		{"Broken", func() string { return fmt.Sprintln(impl.Broken(b, events, e)) }},
		{"Apply", func() string {
			after, rule, code := impl.Apply(b, events)
			return fmt.Sprintln(bookText(after), rule, code)
		}},
		{"RuleName", func() string { return impl.RuleName(e.Id) }},
	}
}

// ruleSample is what the calls of chapter 6 are given.
type ruleSample struct {
	book   impl.Book
	events []impl.Event
	e      impl.Event
}

// ruleSamples are lawful and other groups, on right and on wrong books.
func ruleSamples() []ruleSample {
	p := picker{84}
	var out []ruleSample
	for i, one := range groupCases() {
		cut := p.below(len(one.group))
		out = append(out,
			ruleSample{one.book, one.group, one.group[0]},
			ruleSample{one.book, one.group[:cut], one.group[cut]},
			ruleSample{one.book, spoilGroup(&p, one.book, one.group), fullEvent(1 + i%kindsOfEvents)},
			ruleSample{spoilBook(&p, one.book), one.group, impl.Event{}})
	}
	wrong := []impl.Event{{Kind: -1}, {}}
	return append(out,
		ruleSample{ordinaryBook(), nil, short(impl.EvDayEnd, 0, 2)},
		ruleSample{ordinaryBook(), []impl.Event{}, impl.Event{}},
		ruleSample{ordinaryBook(), wrong, wrong[0]},
		ruleSample{ordinaryBook(), slices.Repeat(wrong, impl.MaxList), impl.Event{}})
}

// TestPromise1RulesLeaveArguments lays orders and events into the middle of greater lists.
func TestPromise1RulesLeaveArguments(t *testing.T) {
	badOrder, badEvent := impl.Order{Id: -7, Tag: "an edge that is longer than a Tag"}, impl.Event{Kind: -7, Cmd: impl.Cmd{Tag: "an edge"}}
	for _, one := range ruleSamples() {
		orders := append(append([]impl.Order{badOrder, badOrder}, one.book.Orders...), badOrder, badOrder)
		events := append(append([]impl.Event{badEvent, badEvent}, one.events...), badEvent, badEvent)
		was := listText(orders, orderText) + groupText(events)
		b := impl.Book{Next: one.book.Next, Orders: orders[2 : 2+len(one.book.Orders)]}
		for _, a := range ruleAsks(b, events[2:2+len(one.events)], one.e) {
			a.call()
			if listText(orders, orderText)+groupText(events) != was {
				t.Fatalf("%s wrote into its arguments or around them, of%s and %s", a.name, showGroup(one.events), showBook(one.book))
			}
		}
	}
}

// TestPromise1NewBooksBehindGroups spoils what was answered, and what was given, and asks whether it shows in the other.
func TestPromise1NewBooksBehindGroups(t *testing.T) {
	badOrder, badEvent := impl.Order{Id: -9, Tag: "spoiled"}, impl.Event{Kind: -9}
	for _, one := range ruleSamples() {
		given := impl.Book{Next: one.book.Next, Orders: append(make([]impl.Order, 0, len(one.book.Orders)+3), one.book.Orders...)}
		group := append(make([]impl.Event, 0, len(one.events)+3), one.events...)
		was := listText(given.Orders[:cap(given.Orders)], orderText) + groupText(group[:cap(group)])
		first, _, _ := impl.Apply(given, group)
		second, _, _ := impl.Apply(given, group)
		want := bookText(second)
		fill(first.Orders, badOrder)
		if listText(given.Orders[:cap(given.Orders)], orderText)+groupText(group[:cap(group)]) != was {
			t.Fatalf("a book shares memory with the book behind a group, of%s", showGroup(one.events))
		}
		fill(given.Orders, badOrder)
		fill(group, badEvent)
		if bookText(second) != want {
			t.Fatalf("an answer shares memory with what was given or another answer, of%s", showGroup(one.events))
		}
	}
}

// TestPromise1WhateverGroup has books and events of any numbers at all.
func TestPromise1WhateverGroup(t *testing.T) {
	p := picker{85}
	n := func() int { return int(p.next()) >> p.below(64) }
	for range 10000 {
		b := pickBook(&p)
		if p.below(4) == 0 {
			b = spoilBook(&p, b)
		}
		var group []impl.Event
		for range p.below(5) {
			e := impl.Event{Kind: 1 + p.below(kindsOfEvents)}
			for _, name := range wholeFields {
				if tells(e.Kind, name) && p.below(8) > 0 {
					*field(&e, name) = n()
				}
			}
			if tells(e.Kind, "cmd.price") {
				kind := e.Cmd.Kind
				if e.Cmd = anyCmd(&p); e.Kind == impl.EvAccept {
					e.Cmd.Kind, e.Cmd.Id = impl.CmNew, kind
				}
			}
			group = append(group, e)
		}
		checkRules(t, "whatever group", b, group)
	}
}
