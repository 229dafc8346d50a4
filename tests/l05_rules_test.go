package tests

import (
	"slices"
	"strings"
	"testing"

	"loop.example/g00092/impl"
)

func accept(id int, c impl.Cmd) impl.Event { return impl.Event{Kind: impl.EvAccept, Cmd: c, Id: id} }

func refuse(c impl.Cmd, reason int) impl.Event {
	return impl.Event{Kind: impl.EvRefuse, Cmd: c, Reason: reason}
}

func trade(id, other, qty, price int) impl.Event {
	return impl.Event{Kind: impl.EvTrade, Id: id, Other: other, Qty: qty, Price: price}
}

// short is an event that has but an Id and a Qty.
func short(kind, id, qty int) impl.Event { return impl.Event{Kind: kind, Id: id, Qty: qty} }

func isStarter(kind int) bool {
	_, ok := toldCmd(impl.Event{Kind: kind})
	return ok
}

// groupCase is a lawful group, with the book that it stands on.
type groupCase struct {
	name  string
	book  impl.Book
	group []impl.Event
}

// dayBook has three orders of a day among others, the first Ids not at the front.
func dayBook() impl.Book {
	b := ordinaryBook()
	b.Orders[5].Life = impl.LfDay
	return b
}

// groupCases are takers of each Type that trade whole, in part or not at all,
// and all else that a group may be; those of new orders in the mirror, too.
func groupCases() []groupCase {
	b := ordinaryBook()
	var out []groupCase
	add := func(name string, b impl.Book, c impl.Cmd) {
		_, group := wantStep(b, c)
		out = append(out, groupCase{name, b, group})
	}
	for _, c := range []impl.Cmd{
		newCmd(1, impl.TyLimit, 9, 399), newCmd(1, impl.TyLimit, 2, 400), newCmd(1, impl.TyLimit, 3, 400), newCmd(1, impl.TyLimit, 4, 400),
		newCmd(1, impl.TyLimit, 6, 401), newCmd(1, impl.TyLimit, 14, 401), newCmd(1, impl.TyLimit, 15, 401),
		newCmd(1, impl.TyMarket, 1, 0), newCmd(1, impl.TyMarket, 5, 0), newCmd(1, impl.TyMarket, 14, 0), newCmd(1, impl.TyMarket, 15, 0), newCmd(1, impl.TyMarket, impl.MaxQty, 0),
		newCmd(1, impl.TyIoc, 4, 399), newCmd(1, impl.TyIoc, 4, 400), newCmd(1, impl.TyIoc, 6, 500), newCmd(1, impl.TyIoc, 20, 401),
		newCmd(1, impl.TyFok, 3, 400), newCmd(1, impl.TyFok, 14, 401), newCmd(1, impl.TyFok, 6, 401),
		newCmd(1, impl.TyPost, 4, 399), newCmd(1, impl.TyPost, 1, 1),
	} {
		add("buying", b, c)
		add("selling", mirrorBook(b), mirrorCmd(c))
		c.Tag = "~ a tag"
		if wantRests(c) {
			c.Life = impl.LfDay
		}
		add("of a day", b, c)
	}
	for _, orderType := range []int{impl.TyLimit, impl.TyMarket, impl.TyIoc, impl.TyPost} {
		add("an empty book", impl.Book{Next: 1}, newCmd(2, orderType, 7, 5))
		add("the last Id", impl.Book{Next: impl.MaxIds - 1}, newCmd(2, orderType, 7, 5))
	}
	many := fullBook()
	many.Orders = slices.DeleteFunc(many.Orders, func(o impl.Order) bool { return o.Side == impl.SdSell && o.Id > 12 })
	add("many orders", many, newCmd(1, impl.TyLimit, 200, 30))
	for _, o := range b.Orders {
		add("cancel", b, cancelCmd(o.Id))
		if o.Left > 1 {
			add("reduce", b, reduceCmd(o.Id, 1))
			add("reduce", b, reduceCmd(o.Id, o.Left-1))
		}
	}
	end := impl.Cmd{Kind: impl.CmDayEnd}
	add("no order", impl.Book{Next: 3}, end)
	add("no order of a day", fullBook(), end)
	add("an order of a day", behind(rowBook(1, 4), impl.Book{Next: 2, Orders: []impl.Order{{Id: 1, Side: 1, Ticks: 3, Left: 2, Life: impl.LfDay}}}), end)
	add("orders of a day", b, end)
	add("more orders of a day", dayBook(), end)
	for _, one := range refusedCases() {
		add("refused", one.book, one.c)
	}
	return out
}

// refusedCase is a command that is refused, with the reason.
type refusedCase struct {
	book   impl.Book
	c      impl.Cmd
	reason int
}

// refusedCases have each reason, of each kind of command that may have it.
func refusedCases() []refusedCase {
	b, full, last := ordinaryBook(), fullBook(), ordinaryBook()
	last.Next = impl.MaxIds
	limit := newCmd(1, impl.TyLimit, 2, 400)
	with := func(change func(*impl.Cmd)) impl.Cmd {
		c := limit
		change(&c)
		return c
	}
	cancelWith := func(c impl.Cmd, tag string) impl.Cmd {
		c.Tag = tag
		return c
	}
	return []refusedCase{
		{b, impl.Cmd{}, impl.RfKind},
		{b, with(func(c *impl.Cmd) { c.Kind = 5 }), impl.RfKind},
		{b, with(func(c *impl.Cmd) { c.Id = 12 }), impl.RfForm},
		{b, cancelWith(cancelCmd(2), "x"), impl.RfForm},
		{b, impl.Cmd{Kind: impl.CmReduce, Id: 2, Qty: 1, Price: minusNought}, impl.RfForm},
		{b, impl.Cmd{Kind: impl.CmDayEnd, Qty: 2}, impl.RfForm},
		{b, with(func(c *impl.Cmd) { c.Side = 0 }), impl.RfSide},
		{b, with(func(c *impl.Cmd) { c.Side = 3 }), impl.RfSide},
		{b, with(func(c *impl.Cmd) { c.Type = 0 }), impl.RfType},
		{b, with(func(c *impl.Cmd) { c.Type = 6 }), impl.RfType},
		{b, with(func(c *impl.Cmd) { c.Life = 2 }), impl.RfLife},
		{b, with(func(c *impl.Cmd) { c.Type, c.Life = impl.TyIoc, impl.LfDay }), impl.RfLife},
		{b, with(func(c *impl.Cmd) { c.Price = 0 }), impl.RfPrice},
		{b, with(func(c *impl.Cmd) { c.Price = 100.1 }), impl.RfPrice},
		{b, with(func(c *impl.Cmd) { c.Type = impl.TyMarket }), impl.RfPrice},
		{b, with(func(c *impl.Cmd) { c.Qty = 0 }), impl.RfQty},
		{b, with(func(c *impl.Cmd) { c.Qty = impl.MaxQty + 1 }), impl.RfQty},
		{b, reduceCmd(2, 0), impl.RfQty},
		{b, with(func(c *impl.Cmd) { c.Tag = "1234567890123" }), impl.RfTag},
		{b, with(func(c *impl.Cmd) { c.Tag = "\x7f" }), impl.RfTag},
		{b, cancelCmd(5), impl.RfId},
		{b, cancelCmd(12), impl.RfId},
		{b, reduceCmd(1, 1), impl.RfId},
		{b, reduceCmd(2, 5), impl.RfMore},
		{b, reduceCmd(4, 1), impl.RfMore},
		{b, newCmd(1, impl.TyPost, 2, 400), impl.RfPost},
		{b, newCmd(1, impl.TyFok, 4, 400), impl.RfFill},
		{b, newCmd(1, impl.TyFok, 4, 399), impl.RfFill},
		{last, limit, impl.RfFull},
		{last, newCmd(2, impl.TyMarket, 1, 0), impl.RfFull},
		{full, newCmd(1, impl.TyLimit, 1, 10), impl.RfFull},
		{full, newCmd(2, impl.TyPost, 1, 20), impl.RfFull},
		{rowBook(2, 400, 401, 402, 403, 404, 405, 406, 407), newCmd(1, impl.TyLimit, 1, 4), impl.RfFull},
	}
}

func TestRuleNames(t *testing.T) {
	names := "frame event start reason accept id count over trade maker price qty rest expire short totals behind many"
	constants := []int{
		impl.RuFrame, impl.RuEvent, impl.RuStart, impl.RuReason, impl.RuAccept, impl.RuId, impl.RuCount, impl.RuOver, impl.RuTrade,
		impl.RuMaker, impl.RuPrice, impl.RuQty, impl.RuRest, impl.RuExpire, impl.RuShort, impl.RuTotals, impl.RuBehind, impl.RuMany,
	}
	for i, name := range strings.Fields(names) {
		if got := impl.RuleName(i + 1); got != name || constants[i] != i+1 {
			t.Errorf("rule %d is %q, its constant %d", i+1, got, constants[i])
		}
	}
	for _, rule := range []int{0, 19, 20, -1, -18, 256, 257, 1<<32 + 1, leastInt, leastInt + 1, greatestInt, greatestInt - 1} {
		if got := impl.RuleName(rule); got != "" {
			t.Errorf("RuleName(%d) = %q", rule, got)
		}
	}
}

// TestRulesAsTold has its answers written out.
func TestRulesAsTold(t *testing.T) {
	b := dayBook()
	c := newCmd(1, impl.TyLimit, 20, 401)
	c.Life, c.Tag = impl.LfDay, "mine"
	group := []impl.Event{accept(12, c), trade(12, 6, 3, 400), trade(12, 3, 2, 401), trade(12, 8, 9, 401), short(impl.EvRest, 12, 6)}
	dues := []impl.Due{
		{}, {Kind: impl.EvTrade, Id: 12, Other: 6, Qty: 3, Price: 400}, {Kind: impl.EvTrade, Id: 12, Other: 3, Qty: 2, Price: 401},
		{Kind: impl.EvTrade, Id: 12, Other: 8, Qty: 9, Price: 401}, {Kind: impl.EvRest, Id: 12, Qty: 6}, {},
	}
	for i, want := range dues {
		if due, rule, code := impl.DueOf(b, group[:i]); due != want || rule != 0 || code != impl.OK {
			t.Errorf("behind %d events: %+v, %d, %d", i, due, rule, code)
		}
	}
	want := impl.Book{Next: 13, Orders: []impl.Order{b.Orders[0], b.Orders[2], b.Orders[4], b.Orders[6], {Id: 12, Side: 1, Ticks: 401, Left: 6, Life: impl.LfDay, Tag: "mine"}}}
	if after, rule, code := impl.Apply(b, group); !sameBook(after, want) || rule != 0 || code != impl.OK {
		t.Errorf("behind the group: %s, %d, %d", showBook(after), rule, code)
	}
	c = newCmd(1, impl.TyMarket, 20, 0)
	if due, rule, code := impl.DueOf(b, []impl.Event{accept(12, c), group[1], group[2], group[3]}); due != (impl.Due{Kind: impl.EvDrop, Id: 12, Qty: 6}) || rule != 0 || code != impl.OK {
		t.Errorf("at the market: %+v, %d, %d", due, rule, code)
	}
	day := []impl.Event{short(impl.EvDayEnd, 0, 3), short(impl.EvExpire, 3, 2), short(impl.EvExpire, 7, 4), short(impl.EvExpire, 8, 9)}
	dues = []impl.Due{{}, {Kind: impl.EvExpire, Id: 3, Qty: 2}, {Kind: impl.EvExpire, Id: 7, Qty: 4}, {Kind: impl.EvExpire, Id: 8, Qty: 9}, {}}
	for i, want := range dues {
		if due, rule, code := impl.DueOf(b, day[:i]); due != want || rule != 0 || code != impl.OK {
			t.Errorf("behind %d events of a day's end: %+v, %d, %d", i, due, rule, code)
		}
	}
	want = impl.Book{Next: 12, Orders: []impl.Order{b.Orders[0], b.Orders[2], b.Orders[3], b.Orders[6]}}
	if after, rule, code := impl.Apply(b, day); !sameBook(after, want) || rule != 0 || code != impl.OK {
		t.Errorf("behind the day: %s, %d, %d", showBook(after), rule, code)
	}
	if after, rule, code := impl.Apply(b, day[:3]); !sameBook(after, impl.Book{}) || rule != impl.RuShort || code != impl.ErrLawless {
		t.Errorf("a day that ends early: %s, %d, %d", showBook(after), rule, code)
	}
}

func TestWrongBooksAreNotJudged(t *testing.T) {
	lists := [][]impl.Event{nil, {short(impl.EvDayEnd, 0, 2)}, {short(impl.EvDayEnd, 0, 2), trade(1, 2, 3, 4)}, {{}}, {accept(12, newCmd(1, impl.TyIoc, 1, 4)), short(impl.EvDrop, 12, 1)}, {trade(1, 2, 3, 4)}}
	seen := 0
	for _, one := range bookCases() {
		if one.right {
			continue
		}
		seen++
		for _, list := range lists {
			if due, rule, code := impl.DueOf(one.book, list); due != (impl.Due{}) || rule != 0 || code != impl.ErrBad {
				t.Fatalf("%s: DueOf = %+v, %d, %d", one.name, due, rule, code)
			}
			if rule, code := impl.Broken(one.book, list, short(impl.EvDayEnd, 0, 0)); rule != 0 || code != impl.ErrBad {
				t.Fatalf("%s: Broken = %d, %d", one.name, rule, code)
			}
			if after, rule, code := impl.Apply(one.book, list); !sameBook(after, impl.Book{}) || rule != 0 || code != impl.ErrBad {
				t.Fatalf("%s: Apply = %s, %d, %d", one.name, showBook(after), rule, code)
			}
		}
	}
	if seen < 500 {
		t.Errorf("%d books are wrong: the test asks too little", seen)
	}
}

// wantTurnedDown asks for a code, and for nothing beside it.
func wantTurnedDown(t *testing.T, name string, b impl.Book, events []impl.Event, want int) {
	t.Helper()
	if due, rule, code := impl.DueOf(b, events); due != (impl.Due{}) || rule != 0 || code != want {
		t.Fatalf("%s: DueOf = %+v, %d, %d, of%s", name, due, rule, code, showGroup(events))
	}
	if after, rule, code := impl.Apply(b, events); !sameBook(after, impl.Book{}) || rule != 0 || code != want {
		t.Fatalf("%s: Apply = %s, %d, %d, of%s", name, showBook(after), rule, code, showGroup(events))
	}
	if rule, code := impl.Broken(b, events, short(impl.EvRest, 1, 1)); rule != 0 || code != want {
		t.Fatalf("%s: Broken = %d, %d, of%s", name, rule, code, showGroup(events))
	}
}

// TestWrongEventsAreNotJudged lays them at each place, lawless events ahead of them and behind.
func TestWrongEventsAreNotJudged(t *testing.T) {
	b := ordinaryBook()
	_, group := wantStep(b, newCmd(1, impl.TyLimit, 20, 401))
	lawless := []impl.Event{trade(1, 1, 1, 1), group[0], short(impl.EvRest, 1, 1)}
	for _, wrong := range append(wrongEvents(), impl.Event{}) {
		for _, open := range [][]impl.Event{nil, group[:1], group, lawless} {
			for at := range len(open) + 1 {
				wantTurnedDown(t, "a wrong event", b, slices.Insert(slices.Clone(open), at, wrong), impl.ErrBad)
			}
			if rule, code := impl.Broken(b, open, wrong); rule != 0 || code != impl.ErrBad {
				t.Fatalf("Broken = %d, %d, by %s behind%s", rule, code, showEvent(wrong), showGroup(open))
			}
		}
	}
	for _, right := range rightEvents() {
		checkRules(t, "a right event", b, []impl.Event{right})
		checkBroken(t, "a right event", b, group[:1], right)
		checkBroken(t, "a right event", b, group, right)
	}
}

func TestManyEvents(t *testing.T) {
	b := dayBook()
	end := short(impl.EvDayEnd, 0, 3)
	for _, n := range []int{4094, 4095, 4096, 4097, 4098, 5000} {
		for _, one := range []impl.Event{end, short(impl.EvExpire, 3, 2), {Kind: impl.EvDayEnd, Qty: 9}, {}, {Kind: 77}} {
			list := slices.Repeat([]impl.Event{one}, n)
			if n > 4096 {
				wantTurnedDown(t, "too many", b, list, impl.ErrLong)
				wantTurnedDown(t, "too many on a wrong book", impl.Book{}, list, impl.ErrLong)
				if rule, code := impl.Broken(b, list, impl.Event{}); rule != 0 || code != impl.ErrLong {
					t.Errorf("too many, and a wrong event: Broken = %d, %d", rule, code)
				}
				continue
			}
			checkDue(t, "many", b, list)
			checkApply(t, "many", b, list)
			checkBroken(t, "many", b, list, end)
			checkBroken(t, "many", b, list, impl.Event{})
			wantTurnedDown(t, "many on a wrong book", impl.Book{}, list, impl.ErrBad)
			list[n-1] = impl.Event{Kind: -1}
			wantTurnedDown(t, "the last one is wrong", b, list, impl.ErrBad)
		}
	}
}

func TestFirstEventsOfEachKind(t *testing.T) {
	for _, b := range []impl.Book{{Next: 1}, ordinaryBook(), dayBook(), fullBook()} {
		for kind := 1; kind <= kindsOfEvents; kind++ {
			for _, e := range []impl.Event{plainEvent(kind), fullEvent(kind)} {
				checkRules(t, "a first event", b, []impl.Event{e})
				if !isStarter(kind) {
					wantBreaks(t, "no starter", b, nil, e, impl.RuStart)
				}
			}
		}
		for _, e := range []impl.Event{trade(b.Next, 6, 3, 400), short(impl.EvRest, b.Next, 1), short(impl.EvDrop, b.Next, 1), short(impl.EvExpire, 3, 2)} {
			wantBreaks(t, "no starter", b, nil, e, impl.RuStart)
		}
	}
}

func TestReasonsOfRefusals(t *testing.T) {
	reasons := append([]int{0, 1, 2, 3, 4, 5, 8, 9, 10, 11, 12, 13, 14}, oddNumbers...)
	for _, one := range refusedCases() {
		wantRefused(t, "the command itself", one.book, one.c, one.reason)
		for _, reason := range reasons {
			wantBreaks(t, "a Reason", one.book, nil, refuse(one.c, reason), reasonIf(reason != one.reason, impl.RuReason))
		}
	}
	b := ordinaryBook()
	for _, c := range []impl.Cmd{newCmd(1, impl.TyLimit, 1, 4), newCmd(2, impl.TyMarket, 9, 0), newCmd(1, impl.TyFok, 3, 400), cancelCmd(2), reduceCmd(2, 1), {Kind: impl.CmDayEnd}} {
		for _, reason := range reasons {
			wantBreaks(t, "it is not refused", b, nil, refuse(c, reason), impl.RuReason)
		}
	}
	for n := range impl.MaxStr + 2 {
		c := newCmd(1, impl.TyLimit, 1, 4)
		c.Tag = strings.Repeat("t", n)
		wantBreaks(t, "a Tag", b, nil, refuse(c, impl.RfTag), reasonIf(n <= impl.MaxStr, impl.RuReason))
		c.Qty = 0
		wantBreaks(t, "a Tag and a Qty", b, nil, refuse(c, impl.RfTag), impl.RuReason)
		wantBreaks(t, "a Tag and a Qty", b, nil, refuse(c, impl.RfQty), 0)
		wantBreaks(t, "a Tag that is no new order's", b, nil, refuse(impl.Cmd{Kind: impl.CmDayEnd, Tag: c.Tag}, impl.RfForm), reasonIf(n == 0, impl.RuReason))
	}
	long := newCmd(1, impl.TyLimit, 1, 4)
	long.Tag = strings.Repeat("t", impl.MaxStr+2)
	wantTurnedDown(t, "a Tag that is not cut", b, []impl.Event{refuse(long, impl.RfTag)}, impl.ErrBad)
}

// TestCommandsThatWouldBeRefused tells them as if they were done, with right and with wrong numbers beside.
func TestCommandsThatWouldBeRefused(t *testing.T) {
	seen := map[int]map[int]bool{impl.EvAccept: {}, impl.EvCancel: {}, impl.EvReduce: {}}
	for _, one := range refusedCases() {
		b, next := one.book, one.book.Next
		var events []impl.Event
		switch {
		case one.reason == impl.RfKind || one.reason == impl.RfForm:
			continue
		case one.c.Kind == impl.CmNew:
			for _, id := range []int{next, next - 1, next + 1, 0, 1, -1, leastInt, greatestInt} {
				events = append(events, accept(id, one.c))
			}
		case one.c.Kind == impl.CmCancel:
			for _, qty := range []int{0, 1, 5, -1, leastInt, greatestInt} {
				events = append(events, short(impl.EvCancel, one.c.Id, qty))
			}
		case one.c.Kind == impl.CmReduce:
			events = append(events, short(impl.EvReduce, one.c.Id, one.c.Qty))
		}
		for _, e := range events {
			seen[e.Kind][one.reason] = true
			wantBreaks(t, "it would be refused", b, nil, e, impl.RuAccept)
		}
	}
	for kind, count := range map[int]int{impl.EvAccept: 9, impl.EvCancel: 1, impl.EvReduce: 3} {
		if len(seen[kind]) != count {
			t.Errorf("kind %d has reasons %v: the test asks for others", kind, seen[kind])
		}
	}
	for _, n := range oddNumbers {
		wantBreaks(t, "a cancel", fullBook(), nil, short(impl.EvCancel, n&^15, 1), impl.RuAccept)
		wantBreaks(t, "a reduce", ordinaryBook(), nil, short(impl.EvReduce, 2, n), impl.RuAccept)
	}
}

func TestIdsOfAccepts(t *testing.T) {
	for _, one := range groupCases() {
		first := one.group[0]
		if first.Kind != impl.EvAccept {
			continue
		}
		next := one.book.Next
		wantBreaks(t, "Next", one.book, nil, accept(next, first.Cmd), 0)
		for _, id := range []int{next - 1, next + 1, 0, -next, next + 1<<32, leastInt, greatestInt} {
			wantBreaks(t, "another Id", one.book, nil, accept(id, first.Cmd), impl.RuId)
		}
	}
}

func TestCountsOfCancelsAndDaysEnds(t *testing.T) {
	off := []int{-1, 1, 2, 1 << 32, -1 << 32}
	for _, b := range []impl.Book{ordinaryBook(), dayBook(), fullBook(), {Next: 4}} {
		for _, o := range b.Orders {
			wantBreaks(t, "a cancel", b, nil, short(impl.EvCancel, o.Id, o.Left), 0)
			for _, by := range append(off, -o.Left, -2*o.Left) {
				wantBreaks(t, "a cancel of another Qty", b, nil, short(impl.EvCancel, o.Id, o.Left+by), impl.RuCount)
			}
		}
		count := ordersOfDay(b)
		wantBreaks(t, "a day's end", b, nil, short(impl.EvDayEnd, 0, count), 0)
		for _, by := range append(off, leastInt, greatestInt-count) {
			wantBreaks(t, "a day's end of another Qty", b, nil, short(impl.EvDayEnd, 0, count+by), impl.RuCount)
		}
	}
}

// TestReducedLeft asks that a reduce takes an order's Qty, and nothing else of it.
func TestReducedLeft(t *testing.T) {
	b := ordinaryBook()
	for i, o := range b.Orders {
		for qty := 1; qty < o.Left; qty++ {
			want := cloneBook(b)
			want.Orders[i].Left = qty
			if after, rule, code := impl.Apply(b, []impl.Event{short(impl.EvReduce, o.Id, qty)}); !sameBook(after, want) || rule != 0 || code != impl.OK {
				t.Errorf("reduced: %s, %d, %d", showBook(after), rule, code)
			}
		}
		wantBreaks(t, "not less", b, nil, short(impl.EvReduce, o.Id, o.Left), impl.RuAccept)
	}
}

// startersOn are first events that stand on a book, and some that do not.
func startersOn(b impl.Book) []impl.Event {
	out := []impl.Event{
		accept(b.Next, newCmd(1, impl.TyMarket, 1, 0)), accept(b.Next+1, newCmd(1, impl.TyMarket, 1, 0)), accept(-1, impl.Cmd{Kind: impl.CmNew}),
		refuse(impl.Cmd{}, impl.RfKind), refuse(impl.Cmd{}, 0), short(impl.EvDayEnd, 0, ordersOfDay(b)), short(impl.EvDayEnd, 0, -1), short(impl.EvCancel, -1, 0), short(impl.EvReduce, -1, 0),
	}
	for _, o := range b.Orders {
		out = append(out, short(impl.EvCancel, o.Id, o.Left), short(impl.EvReduce, o.Id, o.Left-1))
	}
	return out
}

func TestLaterStarters(t *testing.T) {
	for _, one := range groupCases() {
		for i := 1; i <= len(one.group); i++ {
			for _, e := range append(startersOn(one.book), one.group[0]) {
				wantBreaks(t, one.name, one.book, one.group[:i], e, impl.RuStart)
			}
		}
	}
}

// TestBehindAWholeGroup lays every event behind groups of which nothing is due.
func TestBehindAWholeGroup(t *testing.T) {
	for _, one := range groupCases() {
		events := slices.Clone(one.group)
		for kind := 1; kind <= kindsOfEvents; kind++ {
			events = append(events, plainEvent(kind), fullEvent(kind))
		}
		for _, o := range one.book.Orders {
			events = append(events, short(impl.EvExpire, o.Id, o.Left), trade(one.book.Next, o.Id, o.Left, o.Ticks))
		}
		for _, e := range events {
			rule := impl.RuOver
			if isStarter(e.Kind) {
				rule = impl.RuStart
			}
			wantBreaks(t, one.name, one.book, one.group, e, rule)
			more := append(slices.Clone(one.group), e)
			if rule, code := impl.Broken(one.book, more, one.group[0]); rule != 0 || code != impl.ErrLawless {
				t.Fatalf("Broken = %d, %d, behind a lawless event", rule, code)
			}
		}
	}
}

// TestEachKindWhereOneIsDue has the document's sentences as a table, by what is due and what comes.
func TestEachKindWhereOneIsDue(t *testing.T) {
	b := dayBook()
	limit, ioc := accept(12, newCmd(1, impl.TyLimit, 5, 399)), accept(12, newCmd(1, impl.TyIoc, 5, 399))
	dues := []struct {
		name string
		open []impl.Event
		due  impl.Event
		// rules are those that an EvTrade, EvRest, EvDrop and EvExpire break.
		rules [4]int
	}{
		{"a trade", []impl.Event{accept(12, newCmd(1, impl.TyLimit, 5, 401))}, trade(12, 6, 3, 400), [4]int{0, impl.RuRest, impl.RuRest, impl.RuExpire}},
		{"a second trade", []impl.Event{accept(12, newCmd(1, impl.TyMarket, 5, 0)), trade(12, 6, 3, 400)}, trade(12, 3, 2, 401), [4]int{0, impl.RuRest, impl.RuRest, impl.RuExpire}},
		{"a rest", []impl.Event{limit}, short(impl.EvRest, 12, 5), [4]int{impl.RuTrade, 0, impl.RuRest, impl.RuExpire}},
		{"a drop", []impl.Event{ioc}, short(impl.EvDrop, 12, 5), [4]int{impl.RuTrade, impl.RuRest, 0, impl.RuExpire}},
		{"an expiry", []impl.Event{short(impl.EvDayEnd, 0, 3)}, short(impl.EvExpire, 3, 2), [4]int{impl.RuExpire, impl.RuExpire, impl.RuExpire, 0}},
		{"a last expiry", []impl.Event{short(impl.EvDayEnd, 0, 3), short(impl.EvExpire, 3, 2), short(impl.EvExpire, 7, 4)}, short(impl.EvExpire, 8, 9), [4]int{impl.RuExpire, impl.RuExpire, impl.RuExpire, 0}},
	}
	for _, one := range dues {
		for i, kind := range []int{impl.EvTrade, impl.EvRest, impl.EvDrop, impl.EvExpire} {
			e := short(kind, one.due.Id, one.due.Qty)
			if kind == impl.EvTrade {
				e.Other, e.Price = one.due.Other, one.due.Price
			}
			wantBreaks(t, one.name, b, one.open, e, one.rules[i])
			if kind == one.due.Kind {
				continue
			}
			for _, e := range []impl.Event{plainEvent(kind), fullEvent(kind), short(kind, one.due.Id, one.due.Qty+1), short(kind, one.due.Id+1, one.due.Qty)} {
				wantBreaks(t, one.name, b, one.open, e, one.rules[i])
			}
		}
		for _, kind := range []int{impl.EvAccept, impl.EvRefuse, impl.EvCancel, impl.EvReduce, impl.EvDayEnd} {
			wantBreaks(t, one.name, b, one.open, plainEvent(kind), impl.RuStart)
			wantBreaks(t, one.name, b, one.open, fullEvent(kind), impl.RuStart)
		}
	}
}

// TestTradesThatAreOthers changes each set of a trade's numbers: the first that is another one counts.
func TestTradesThatAreOthers(t *testing.T) {
	names := []string{"id", "other", "price", "qty"}
	rules := []int{impl.RuTrade, impl.RuMaker, impl.RuPrice, impl.RuQty}
	seen := 0
	for _, one := range groupCases() {
		for i, e := range one.group {
			if e.Kind != impl.EvTrade {
				continue
			}
			seen++
			for set := range 16 {
				for _, by := range []int{1, -1, 1000, -1000000, 1 << 32, leastInt} {
					other, rule := e, 0
					for k := len(names) - 1; k >= 0; k-- {
						if set>>k&1 == 1 {
							*field(&other, names[k]) += by
							rule = rules[k]
						}
					}
					wantBreaks(t, one.name, one.book, one.group[:i], other, rule)
				}
			}
			// The numbers of the taker and of the front, the one for the other.
			wantBreaks(t, one.name, one.book, one.group[:i], trade(e.Other, e.Id, e.Qty, e.Price), impl.RuTrade)
			wantBreaks(t, one.name, one.book, one.group[:i], trade(e.Id, e.Id, e.Qty, e.Price), impl.RuMaker)
			for _, o := range one.book.Orders {
				if o.Id != e.Other {
					wantBreaks(t, "another order of the book", one.book, one.group[:i], trade(e.Id, o.Id, o.Left, o.Ticks), impl.RuMaker)
				}
			}
		}
	}
	if seen < 60 {
		t.Errorf("%d trades: the test asks too little", seen)
	}
}

func TestRestsAndDropsThatAreOthers(t *testing.T) {
	seen := map[int]int{}
	for _, one := range groupCases() {
		i := len(one.group) - 1
		e := one.group[i]
		if e.Kind != impl.EvRest && e.Kind != impl.EvDrop {
			continue
		}
		seen[e.Kind]++
		open := one.group[:i]
		for _, kind := range []int{impl.EvRest, impl.EvDrop} {
			wantBreaks(t, one.name, one.book, open, short(kind, e.Id, e.Qty), reasonIf(kind != e.Kind, impl.RuRest))
			for _, by := range []int{1, -1, 1 << 32, leastInt} {
				wantBreaks(t, one.name, one.book, open, short(kind, e.Id+by, e.Qty), impl.RuRest)
				wantBreaks(t, one.name, one.book, open, short(kind, e.Id, e.Qty+by), impl.RuRest)
				wantBreaks(t, one.name, one.book, open, short(kind, e.Id+by, e.Qty+by), impl.RuRest)
			}
			wantBreaks(t, "what was ordered", one.book, open, short(kind, e.Id, one.group[0].Cmd.Qty), reasonIf(kind != e.Kind || e.Qty != one.group[0].Cmd.Qty, impl.RuRest))
		}
		for _, o := range one.book.Orders {
			wantBreaks(t, "a trade where none meets", one.book, open, trade(e.Id, o.Id, min(o.Left, e.Qty), o.Ticks), impl.RuTrade)
		}
		wantBreaks(t, "twice", one.book, one.group, e, impl.RuOver)
	}
	if seen[impl.EvRest] < 10 || seen[impl.EvDrop] < 10 {
		t.Errorf("%v: the test asks too little", seen)
	}
}

func TestExpiriesThatAreOthers(t *testing.T) {
	b := dayBook()
	end := short(impl.EvDayEnd, 0, 3)
	expires := []impl.Event{short(impl.EvExpire, 3, 2), short(impl.EvExpire, 7, 4), short(impl.EvExpire, 8, 9)}
	orderings([]int{0, 1, 2}, 0, func(order []int) {
		group := []impl.Event{end}
		for _, i := range order {
			group = append(group, expires[i])
		}
		rule := reasonIf(!slices.Equal(order, []int{0, 1, 2}), impl.RuExpire)
		if got := checkRules(t, "in another order", b, group); got != rule {
			t.Errorf("expiries in the order %v: %d", order, got)
		}
	})
	for i, e := range expires {
		open := append([]impl.Event{end}, expires[:i]...)
		for _, by := range []int{1, -1, 1 << 32, leastInt} {
			wantBreaks(t, "another Id", b, open, short(impl.EvExpire, e.Id+by, e.Qty), impl.RuExpire)
			wantBreaks(t, "another Qty", b, open, short(impl.EvExpire, e.Id, e.Qty+by), impl.RuExpire)
		}
		for _, o := range b.Orders {
			wantBreaks(t, "another order", b, open, short(impl.EvExpire, o.Id, o.Left), reasonIf(o.Id != e.Id, impl.RuExpire))
		}
		without := slices.Delete(append([]impl.Event{end}, expires...), i+1, i+2)
		if got := checkRules(t, "one left out", b, without); got != map[bool]int{true: impl.RuShort, false: impl.RuExpire}[i == 2] {
			t.Errorf("without expiry %d: %d", i, got)
		}
		wantBreaks(t, "once more", b, append([]impl.Event{end}, expires...), e, impl.RuOver)
	}
	wantBreaks(t, "no order of a day", fullBook(), []impl.Event{short(impl.EvDayEnd, 0, 0)}, short(impl.EvExpire, 1, 1), impl.RuOver)
}

func TestGroupsThatEndEarly(t *testing.T) {
	dues := map[int]int{}
	for _, one := range groupCases() {
		for i := range len(one.group) {
			if got := checkRules(t, one.name, one.book, one.group[:i]); got != impl.RuShort {
				t.Errorf("%s: the first %d events of%s: %d", one.name, i, showGroup(one.group), got)
			}
			dues[one.group[i].Kind]++
		}
		if got := checkRules(t, one.name, one.book, one.group); got != 0 {
			t.Errorf("%s: a whole group,%s: %d", one.name, showGroup(one.group), got)
		}
		if got := checkRules(t, "an empty list", one.book, []impl.Event{}); got != impl.RuShort {
			t.Errorf("an empty group: %d", got)
		}
	}
	for kind := 1; kind <= kindsOfEvents; kind++ {
		if dues[kind] == 0 {
			t.Errorf("no group ends ahead of kind %d: the test asks too little", kind)
		}
	}
}

// TestFirstBrokenRuleCounts lays one broken event behind another.
func TestFirstBrokenRuleCounts(t *testing.T) {
	for _, one := range groupCases() {
		for i := range one.group {
			for k := i + 1; k < len(one.group); k++ {
				group := slices.Clone(one.group)
				group[k].Id--
				if tells(group[i].Kind, "qty") {
					group[i].Qty++
				} else {
					group[i].Id++
				}
				checkRules(t, one.name, one.book, group)
				if rule, code := impl.Broken(one.book, group[:k], group[k]); rule != 0 || code != impl.ErrLawless {
					t.Fatalf("Broken = %d, %d, behind a lawless event", rule, code)
				}
			}
		}
	}
}

// TestPromise8EventsChanged changes each number of each event of groups.
func TestPromise8EventsChanged(t *testing.T) {
	for _, one := range groupCases() {
		for i, e := range one.group {
			for _, name := range wholeFields {
				for _, n := range []int{0, 1, 2, 3, 5, 6, 12, 13, -1, 398, 400, 1000000, 1000001, leastInt, greatestInt} {
					changed := e
					*field(&changed, name) = n
					group := slices.Clone(one.group)
					group[i] = changed
					checkRules(t, one.name, one.book, group)
				}
			}
			for kind := 1; kind <= kindsOfEvents; kind++ {
				group := slices.Clone(one.group)
				group[i].Kind = kind
				checkRules(t, one.name, one.book, group)
				group[i] = short(kind, e.Id, e.Qty)
				checkRules(t, one.name, one.book, group)
				checkRules(t, one.name, one.book, slices.Insert(slices.Clone(one.group), i, group[i]))
			}
			checkRules(t, one.name, one.book, slices.Delete(slices.Clone(one.group), i, i+1))
		}
	}
}

// checkWholeWay goes along a lawful group event by event.
func checkWholeWay(t *testing.T, name string, b impl.Book, group []impl.Event) {
	t.Helper()
	for i, e := range group {
		wantBreaks(t, name, b, group[:i], e, 0)
	}
	if got := checkRules(t, name, b, group); got != 0 {
		t.Fatalf("%s: the engine's group breaks %d:%s, of %s", name, got, showGroup(group), showBook(b))
	}
}

// TestPromise8TheEngineBreaksNoRule holds any step of the engine against the rules.
func TestPromise8TheEngineBreaksNoRule(t *testing.T) {
	p := picker{81}
	kinds, longest := map[int]int{}, 0
	for range 4000 {
		b := pickBook(&p)
		if !wantBookOK(b) {
			continue
		}
		c := pickCmd(&p, b)
		if p.below(5) == 0 {
			c = wildCmd(&p)
		}
		after, group, _ := impl.StepBook(b, c)
		checkWholeWay(t, "the engine's", b, group)
		got, rule, code := impl.Apply(b, group)
		if code != impl.OK || rule != 0 || !sameBook(got, after) {
			t.Fatalf("the engine goes to %s, the rules to %s, %d, %d, by%s", showBook(after), showBook(got), rule, code, showGroup(group))
		}
		if !slices.IsSortedFunc(got.Orders, func(o, p impl.Order) int { return o.Id - p.Id }) || !wantBookOK(got) {
			t.Fatalf("the book behind%s is %s", showGroup(group), showBook(got))
		}
		longest = max(longest, len(group))
		for _, e := range group {
			kinds[e.Kind]++
		}
	}
	for kind := 1; kind <= kindsOfEvents; kind++ {
		if kinds[kind] < 50 {
			t.Errorf("kind %d came %d times: the test asks too little", kind, kinds[kind])
		}
	}
	if longest < 8 {
		t.Errorf("the longest group has %d events: the test asks too little", longest)
	}
}

// spoilGroup is a group with something else in it, mostly near to what is lawful.
func spoilGroup(p *picker, b impl.Book, group []impl.Event) []impl.Event {
	group = slices.Clone(group)
	at := p.below(len(group))
	switch p.below(8) {
	case 0:
		return slices.Delete(group, at, at+1)
	case 1:
		return slices.Insert(group, at, group[p.below(len(group))])
	case 2:
		other := p.below(len(group))
		group[at], group[other] = group[other], group[at]
	case 3:
		group[at] = short(1+p.below(kindsOfEvents), group[at].Id, group[at].Qty)
	case 4:
		_, group = wantStep(b, pickCmd(p, b))
		return append(group, short(impl.EvRest, b.Next, 1+p.below(9)))
	default:
		for range 1 + p.below(2) {
			names := strings.Fields(strings.ReplaceAll(strings.ReplaceAll(told[group[at].Kind], "cmd.price", ""), "cmd.tag", ""))
			*field(&group[at], names[p.below(len(names))]) += 1 - 2*p.below(2)
		}
	}
	return group
}

// TestPromise8JustTheEngines spoils the groups of any steps: they stand no more, or are another command's.
func TestPromise8JustTheEngines(t *testing.T) {
	p := picker{82}
	rules := map[int]int{}
	for range 20000 {
		b := pickBook(&p)
		if !wantBookOK(b) {
			continue
		}
		_, group := wantStep(b, pickCmd(&p, b))
		spoiled := spoilGroup(&p, b, group)
		rules[checkRules(t, "spoiled", b, spoiled)]++
	}
	for rule := impl.RuStart; rule <= impl.RuShort; rule++ {
		if rules[rule] < 20 {
			t.Errorf("rule %d is broken %d times: the test asks too little", rule, rules[rule])
		}
	}
	if rules[0] < 200 {
		t.Errorf("%d groups stand: the test asks too little", rules[0])
	}
}

// TestPromise8RunsByTheRules walks scripts by the rules alone.
func TestPromise8RunsByTheRules(t *testing.T) {
	p := picker{83}
	for range 40 {
		log, _ := impl.RunScript(pickScript(&p, impl.MaxCmds))
		b := impl.Book{Next: 1}
		for i, group := range log.Groups {
			after, rule, code := impl.Apply(b, group)
			if rule != 0 || code != impl.OK {
				t.Fatalf("group %d breaks %d, %d:%s", i, rule, code, showGroup(group))
			}
			b = after
		}
		if !sameBook(b, log.Book) {
			t.Fatalf("the rules come to %s, the engine to %s", showBook(b), showBook(log.Book))
		}
	}
}
