package tests

import (
	"slices"
	"testing"

	"loop.example/g00092/impl"
)

// The model knows what is due from the whole group that chapter 5 makes of the
// first event's command; the rules are the sentences of chapter 6, in their order.

func wantEventOK(e impl.Event) bool {
	if e.Kind < 1 || e.Kind > kindsOfEvents || len(e.Cmd.Tag) > 13 {
		return false
	}
	if e.Kind == impl.EvAccept && e.Cmd.Kind != impl.CmNew {
		return false
	}
	for _, name := range wholeFields {
		goesWithoutSaying := e.Kind == impl.EvAccept && name == "cmd.kind"
		if *field(&e, name) != 0 && !tells(e.Kind, name) && !goesWithoutSaying {
			return false
		}
	}
	return tells(e.Kind, "cmd.price") || isZeroPrice(e.Cmd.Price) && e.Cmd.Tag == ""
}

// ruleCase is a rule, and whether an event stands against it.
type ruleCase struct {
	rule   int
	broken bool
}

func firstBroken(cases ...ruleCase) int {
	for _, c := range cases {
		if c.broken {
			return c.rule
		}
	}
	return 0
}

func ordersOfDay(b impl.Book) int {
	count := 0
	for _, o := range b.Orders {
		count += o.Life
	}
	return count
}

func wantFirstRule(b impl.Book, e impl.Event) int {
	c, isStarter := toldCmd(e)
	reason := wantReason(b, c)
	isRefuse := e.Kind == impl.EvRefuse
	o, _ := orderOf(b, e.Id)
	return firstBroken(
		ruleCase{impl.RuStart, !isStarter},
		ruleCase{impl.RuReason, isRefuse && (reason == 0 || e.Reason != reason)},
		ruleCase{impl.RuAccept, !isRefuse && reason != 0},
		ruleCase{impl.RuId, e.Kind == impl.EvAccept && e.Id != b.Next},
		ruleCase{impl.RuCount, e.Kind == impl.EvCancel && e.Qty != o.Left},
		ruleCase{impl.RuCount, e.Kind == impl.EvDayEnd && e.Qty != ordersOfDay(b)},
	)
}

func wantLaterRule(due impl.Due, e impl.Event) int {
	_, isStarter := toldCmd(e)
	isJust := e.Kind == due.Kind && e.Id == due.Id && e.Qty == due.Qty
	expires := due.Kind == impl.EvExpire || e.Kind == impl.EvExpire
	ends := due.Kind == impl.EvRest || due.Kind == impl.EvDrop
	trades := due.Kind == impl.EvTrade
	return firstBroken(
		ruleCase{impl.RuStart, isStarter},
		ruleCase{impl.RuOver, due.Kind == 0},
		ruleCase{impl.RuExpire, expires && !isJust},
		ruleCase{impl.RuTrade, ends && e.Kind == impl.EvTrade},
		ruleCase{impl.RuRest, ends && !isJust},
		ruleCase{impl.RuRest, trades && e.Kind != impl.EvTrade},
		ruleCase{impl.RuTrade, trades && e.Id != due.Id},
		ruleCase{impl.RuMaker, trades && e.Other != due.Other},
		ruleCase{impl.RuPrice, trades && e.Price != due.Price},
		ruleCase{impl.RuQty, trades && e.Qty != due.Qty},
	)
}

// enginesGroup is what chapter 5 makes of the command that a first event tells.
func enginesGroup(b impl.Book, first impl.Event) (impl.Book, []impl.Event) {
	c, _ := toldCmd(first)
	return wantStep(b, c)
}

// dueIn is what stands in the engine's group behind its first events.
func dueIn(group []impl.Event, count int) impl.Due {
	if count == 0 || count == len(group) {
		return impl.Due{}
	}
	next := group[count]
	return impl.Due{Kind: next.Kind, Id: next.Id, Other: next.Other, Qty: next.Qty, Price: next.Price}
}

// wantDue wants events that break no rule.
func wantDue(b impl.Book, open []impl.Event) impl.Due {
	if len(open) == 0 {
		return impl.Due{}
	}
	_, group := enginesGroup(b, open[0])
	return dueIn(group, len(open))
}

// wantBroken wants open to break no rule.
func wantBroken(b impl.Book, open []impl.Event, e impl.Event) int {
	if len(open) == 0 {
		return wantFirstRule(b, e)
	}
	return wantLaterRule(wantDue(b, open), e)
}

// wantRule is the rule that is broken first, 0 if none.
func wantRule(b impl.Book, events []impl.Event) int {
	if len(events) == 0 {
		return 0
	}
	if rule := wantFirstRule(b, events[0]); rule != 0 {
		return rule
	}
	_, group := enginesGroup(b, events[0])
	for i, e := range events[1:] {
		if rule := wantLaterRule(dueIn(group, i+1), e); rule != 0 {
			return rule
		}
	}
	return 0
}

func wantRuleCode(b impl.Book, events ...impl.Event) int {
	switch {
	case !wantBookOK(b), slices.ContainsFunc(events, func(e impl.Event) bool { return !wantEventOK(e) }):
		return impl.ErrBad
	}
	return impl.OK
}

// checkDue asks DueOf and the model, and hands out the rule that is broken.
func checkDue(t *testing.T, name string, b impl.Book, open []impl.Event) int {
	t.Helper()
	due, rule, code := impl.DueOf(b, open)
	wantCode := wantRuleCode(b, open...)
	var want impl.Due
	wantRuleOf := 0
	if wantCode == impl.OK {
		if wantRuleOf = wantRule(b, open); wantRuleOf != 0 {
			wantCode = impl.ErrLawless
		} else {
			want = wantDue(b, open)
		}
	}
	if due != want || rule != wantRuleOf || code != wantCode {
		t.Fatalf("%s: DueOf = %+v, %d, %d, not %+v, %d, %d, of%s and %s", name, due, rule, code, want, wantRuleOf, wantCode, showGroup(open), showBook(b))
	}
	return rule
}

// checkBroken asks Broken and the model, and hands out the rule that is broken.
func checkBroken(t *testing.T, name string, b impl.Book, open []impl.Event, e impl.Event) int {
	t.Helper()
	rule, code := impl.Broken(b, open, e)
	want, wantCode := 0, wantRuleCode(b, append(slices.Clone(open), e)...)
	if wantCode == impl.OK {
		if wantRule(b, open) != 0 {
			wantCode = impl.ErrLawless
		} else {
			want = wantBroken(b, open, e)
		}
	}
	if rule != want || code != wantCode {
		t.Fatalf("%s: Broken = %d, %d, not %d, %d, by %s behind%s, of %s", name, rule, code, want, wantCode, showEvent(e), showGroup(open), showBook(b))
	}
	return rule
}

// checkApply asks Apply and the model, and hands out the rule that is broken.
func checkApply(t *testing.T, name string, b impl.Book, group []impl.Event) int {
	t.Helper()
	after, rule, code := impl.Apply(b, group)
	wantCode := wantRuleCode(b, group...)
	var want impl.Book
	wantRuleOf := 0
	if wantCode == impl.OK {
		wantRuleOf = wantRule(b, group)
		if wantRuleOf == 0 && (len(group) == 0 || wantDue(b, group) != impl.Due{}) {
			wantRuleOf = impl.RuShort
		}
		if wantRuleOf != 0 {
			wantCode = impl.ErrLawless
		} else {
			want, _ = enginesGroup(b, group[0])
		}
	}
	if !sameBook(after, want) || rule != wantRuleOf || code != wantCode {
		t.Fatalf("%s: Apply = %s, %d, %d, not %s, %d, %d, of%s and %s", name, showBook(after), rule, code, showBook(want), wantRuleOf, wantCode, showGroup(group), showBook(b))
	}
	return rule
}

// checkRules asks all of chapter 6 about events, the last of them as the one that comes, too.
func checkRules(t *testing.T, name string, b impl.Book, events []impl.Event) int {
	t.Helper()
	checkDue(t, name, b, events)
	if last := len(events) - 1; last >= 0 {
		checkBroken(t, name, b, events[:last], events[last])
	}
	rule := checkApply(t, name, b, events)
	checkPromise8(t, name, b, events)
	return rule
}

// checkPromise8 holds a group against the engine itself, without the rules.
func checkPromise8(t *testing.T, name string, b impl.Book, group []impl.Event) {
	t.Helper()
	after, _, code := impl.Apply(b, group)
	if wantRuleCode(b, group...) != impl.OK {
		return
	}
	stands := false
	var want impl.Book
	if len(group) > 0 {
		if c, ok := toldCmd(group[0]); ok {
			book, engines, _ := impl.StepBook(b, c)
			if stands = sameEvents(engines, group); stands {
				want = book
			}
		}
	}
	if (code == impl.OK) != stands || !sameBook(after, want) {
		t.Fatalf("%s: Apply = %s, %d, where the engine says %v, %s, of%s and %s", name, showBook(after), code, stands, showBook(want), showGroup(group), showBook(b))
	}
}

// wantBreaks asks for the rule that an event breaks, and asks the model all else.
func wantBreaks(t *testing.T, name string, b impl.Book, open []impl.Event, e impl.Event, rule int) {
	t.Helper()
	if got, code := impl.Broken(b, open, e); got != rule || code != impl.OK {
		t.Fatalf("%s: %s breaks %d, %d, not %d, behind%s, of %s", name, showEvent(e), got, code, rule, showGroup(open), showBook(b))
	}
	checkRules(t, name, b, append(slices.Clone(open), e))
}
