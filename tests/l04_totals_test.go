package tests

import (
	"fmt"
	"math"
	"slices"
	"strings"
	"testing"

	"loop.example/g00092/impl"
)

// toldCmd is the command that an event tells, and whether a group may begin with it.
func toldCmd(e impl.Event) (impl.Cmd, bool) {
	cmds := map[int]impl.Cmd{
		impl.EvAccept: e.Cmd,
		impl.EvRefuse: e.Cmd,
		impl.EvCancel: cancelCmd(e.Id),
		impl.EvReduce: reduceCmd(e.Id, e.Qty),
		impl.EvDayEnd: {Kind: impl.CmDayEnd},
	}
	c, ok := cmds[e.Kind]
	return c, ok
}

// wantTotalsOf asks the faults of groups in the document's order, each over all groups.
func wantTotalsOf(groups [][]impl.Event) (impl.Totals, int) {
	if len(groups) > 4096 {
		return impl.Totals{}, impl.ErrLong
	}
	if len(groups) > 200 {
		return impl.Totals{}, impl.ErrMany
	}
	var list []impl.Cmd
	for _, group := range groups {
		if len(group) == 0 {
			return impl.Totals{}, impl.ErrForm
		}
		c, ok := toldCmd(group[0])
		if !ok {
			return impl.Totals{}, impl.ErrForm
		}
		list = append(list, c)
	}
	if log := wantRun(list); sameGroups(log.Groups, groups) {
		return log.Totals, impl.OK
	}
	return impl.Totals{}, impl.ErrLawless
}

func showGroups(groups [][]impl.Event) string {
	var out strings.Builder
	for i, group := range groups {
		if i > 20 {
			return out.String() + " .."
		}
		out.WriteString(" [" + showGroup(group) + " ]")
	}
	return out.String()
}

func cloneGroups(groups [][]impl.Event) [][]impl.Event {
	out := make([][]impl.Event, len(groups))
	for i, group := range groups {
		out[i] = slices.Clone(group)
	}
	return out
}

// checkTotals asks TotalsOf and the model about groups.
func checkTotals(t *testing.T, name string, groups [][]impl.Event) int {
	t.Helper()
	got, code := impl.TotalsOf(groups)
	want, wantCode := wantTotalsOf(groups)
	if got != want || code != wantCode {
		t.Fatalf("%s: TotalsOf = %+v, %d, not %+v, %d, of %d groups%s", name, got, code, want, wantCode, len(groups), showGroups(groups))
	}
	return code
}

func wantTotalsCode(t *testing.T, name string, groups [][]impl.Event, code int) {
	t.Helper()
	if got := checkTotals(t, name, groups); got != code {
		t.Fatalf("%s: TotalsOf answers %d, not %d, of %d groups%s", name, got, code, len(groups), showGroups(groups))
	}
}

// checkRun asks the engine and the model about a script, and hands out what the engine answered.
func checkRun(t *testing.T, name string, list []impl.Cmd) impl.RunLog {
	t.Helper()
	log, code := impl.RunScript(list)
	want := wantRun(list)
	if code != impl.OK || !sameBook(log.Book, want.Book) || log.Totals != want.Totals {
		t.Fatalf("%s: %d commands come to %s, %+v, %d, not to %s, %+v", name, len(list), showBook(log.Book), log.Totals, code, showBook(want.Book), want.Totals)
	}
	if !sameGroups(log.Groups, want.Groups) {
		t.Fatalf("%s: %d commands make%s, not%s", name, len(list), showGroups(log.Groups), showGroups(want.Groups))
	}
	wantTotalsCode(t, name, log.Groups, impl.OK)
	checkAddUp(t, name, log)
	return log
}

// checkAddUp asks what holds of the totals of every run, without the model.
func checkAddUp(t *testing.T, name string, log impl.RunLog) {
	t.Helper()
	count, qty, ordered := map[int]int{}, map[int]int{}, 0
	left := map[int]int{}
	for _, e := range slices.Concat(log.Groups...) {
		count[e.Kind]++
		qty[e.Kind] += e.Qty
		switch e.Kind {
		case impl.EvAccept:
			ordered += e.Cmd.Qty
			left[e.Id] = e.Cmd.Qty
		case impl.EvTrade:
			left[e.Id] -= e.Qty
			left[e.Other] -= e.Qty
		case impl.EvReduce:
			ordered -= left[e.Id] - e.Qty
			left[e.Id] = e.Qty
		}
	}
	sum := log.Totals
	if sum.Groups != sum.Accepted+sum.Refused+count[impl.EvCancel]+count[impl.EvReduce]+count[impl.EvDayEnd] {
		t.Fatalf("%s: the groups do not add up: %+v of %v", name, sum, count)
	}
	if sum.Live != count[impl.EvRest]-count[impl.EvCancel]-count[impl.EvExpire]-tradedAway(log) {
		t.Fatalf("%s: the orders do not add up: %+v of %v", name, sum, count)
	}
	if ordered != 2*sum.Volume+qty[impl.EvDrop]+qty[impl.EvCancel]+qty[impl.EvExpire]+sum.Left {
		t.Fatalf("%s: %d are ordered, which do not add up: %+v of %v", name, ordered, sum, qty)
	}
}

// tradedAway is how many orders of the book went by a trade.
func tradedAway(log impl.RunLog) int {
	gone, left := 0, map[int]int{}
	for _, e := range slices.Concat(log.Groups...) {
		switch e.Kind {
		case impl.EvRest, impl.EvReduce:
			left[e.Id] = e.Qty
		case impl.EvTrade:
			if left[e.Other] -= e.Qty; left[e.Other] == 0 {
				gone++
			}
		}
	}
	return gone
}

// toldScript has every kind of event and some reasons.
func toldScript() []impl.Cmd {
	dayOrder := newCmd(impl.SdSell, impl.TyPost, 4, 402)
	dayOrder.Life, dayOrder.Tag = impl.LfDay, "of a day"
	long := newCmd(impl.SdBuy, impl.TyLimit, 1, 4)
	long.Tag = "longer than a Tag may be"
	return []impl.Cmd{
		newCmd(impl.SdSell, impl.TyLimit, 5, 401),
		dayOrder,
		newCmd(impl.SdSell, impl.TyLimit, 3, 400),
		newCmd(impl.SdBuy, impl.TyLimit, 6, 401),
		long,
		newCmd(impl.SdBuy, impl.TyIoc, 9, 401),
		reduceCmd(2, 3),
		newCmd(impl.SdBuy, impl.TyLimit, 2, 398),
		newCmd(impl.SdBuy, impl.TyLimit, 7, 399),
		cancelCmd(6),
		{Kind: impl.CmDayEnd},
		cancelCmd(2),
		{Kind: 77, Price: math.NaN()},
		newCmd(impl.SdSell, impl.TyMarket, 1, 0),
	}
}

// TestRunScriptAsTold has its answers written out.
func TestRunScriptAsTold(t *testing.T) {
	list := toldScript()
	cut := list[4]
	cut.Tag = "longer than a"
	accept := func(at, id int) impl.Event { return impl.Event{Kind: impl.EvAccept, Cmd: list[at], Id: id} }
	one := func(kind, id, qty int) impl.Event { return impl.Event{Kind: kind, Id: id, Qty: qty} }
	trade := func(id, other, qty, price int) impl.Event {
		return impl.Event{Kind: impl.EvTrade, Id: id, Other: other, Qty: qty, Price: price}
	}
	refuse := func(c impl.Cmd, reason int) impl.Event {
		return impl.Event{Kind: impl.EvRefuse, Cmd: c, Reason: reason}
	}
	want := [][]impl.Event{
		{accept(0, 1), one(impl.EvRest, 1, 5)},
		{accept(1, 2), one(impl.EvRest, 2, 4)},
		{accept(2, 3), one(impl.EvRest, 3, 3)},
		{accept(3, 4), trade(4, 3, 3, 400), trade(4, 1, 3, 401)},
		{refuse(cut, impl.RfTag)},
		{accept(5, 5), trade(5, 1, 2, 401), one(impl.EvDrop, 5, 7)},
		{one(impl.EvReduce, 2, 3)},
		{accept(7, 6), one(impl.EvRest, 6, 2)},
		{accept(8, 7), one(impl.EvRest, 7, 7)},
		{one(impl.EvCancel, 6, 2)},
		{one(impl.EvDayEnd, 0, 1), one(impl.EvExpire, 2, 3)},
		{refuse(list[11], impl.RfId)},
		{refuse(list[12], impl.RfKind)},
		{accept(13, 8), trade(8, 7, 1, 399)},
	}
	totals := impl.Totals{Groups: 14, Accepted: 8, Refused: 3, Trades: 4, Volume: 9, Notional: 3*400 + 5*401 + 399, Live: 1, Left: 6}
	book := impl.Book{Next: 9, Orders: []impl.Order{{Id: 7, Side: impl.SdBuy, Ticks: 399, Left: 6}}}
	log := checkRun(t, "as told", list)
	if !sameGroups(log.Groups, want) || log.Totals != totals || !sameBook(log.Book, book) {
		t.Errorf("%s, %+v,%s", showBook(log.Book), log.Totals, showGroups(log.Groups))
	}
	if got, code := impl.TotalsOf(want); got != totals || code != impl.OK {
		t.Errorf("TotalsOf = %+v, %d", got, code)
	}
}

// TestRunScriptOfHowMany goes over the edges of how many commands there are.
func TestRunScriptOfHowMany(t *testing.T) {
	p := picker{61}
	full := pickScript(&p, impl.MaxCmds)
	for _, list := range [][]impl.Cmd{nil, {}, full[:1], full[:2], full[:199], full} {
		if log := checkRun(t, "so many", list); log.Totals.Groups != len(list) || len(log.Groups) != len(list) {
			t.Errorf("%d commands: %+v", len(list), log.Totals)
		}
	}
	for _, n := range []int{201, 202, 4095, 4096, 4097, 5000} {
		for _, list := range [][]impl.Cmd{make([]impl.Cmd, n), slices.Repeat([]impl.Cmd{{Kind: impl.CmDayEnd}}, n)} {
			want := impl.ErrMany
			if n > 4096 {
				want = impl.ErrLong
			}
			log, code := impl.RunScript(list)
			if code != want || len(log.Groups) != 0 || !sameBook(log.Book, impl.Book{}) || log.Totals != (impl.Totals{}) {
				t.Errorf("%d commands: %d groups, %s, %+v, %d", n, len(log.Groups), showBook(log.Book), log.Totals, code)
			}
		}
	}
}

// pickScript has commands that are near the book that comes of those ahead.
func pickScript(p *picker, n int) []impl.Cmd {
	var list []impl.Cmd
	b := impl.Book{Next: 1}
	quiet := 1 + p.below(4)
	for range n {
		c := pickCmd(p, b)
		if p.below(4) < quiet {
			c = quietCmd(p)
		}
		b, _ = wantStep(b, c)
		list = append(list, c)
	}
	return list
}

func TestPromise13AnyScript(t *testing.T) {
	p := picker{62}
	var seen impl.Totals
	full := 0
	for range 200 {
		list := pickScript(&p, p.below(impl.MaxCmds+1))
		log := checkRun(t, "any script", list)
		seen.Accepted += log.Totals.Accepted
		seen.Refused += log.Totals.Refused
		seen.Trades += log.Totals.Trades
		for _, group := range log.Groups {
			full += reasonIf(group[0].Reason == impl.RfFull, 1)
		}
	}
	if seen.Accepted < 5000 || seen.Refused < 1000 || seen.Trades < 1000 || full < 50 {
		t.Errorf("%+v, %d refused for want of room: the test asks too little", seen, full)
	}
}

// TestRunScriptGoesByStepBook asks that a script is its commands, one behind the other.
func TestRunScriptGoesByStepBook(t *testing.T) {
	p := picker{63}
	for range 60 {
		list := pickScript(&p, impl.MaxCmds)
		log, _ := impl.RunScript(list)
		b := impl.Book{Next: 1}
		for i, c := range list {
			var group []impl.Event
			var code int
			if b, group, code = impl.StepBook(b, c); code != impl.OK || !sameEvents(group, log.Groups[i]) {
				t.Fatalf("command %d: StepBook makes%s, %d, RunScript%s", i, showGroup(group), code, showGroup(log.Groups[i]))
			}
		}
		if !sameBook(b, log.Book) {
			t.Fatalf("StepBook comes to %s, RunScript to %s", showBook(b), showBook(log.Book))
		}
	}
}

// TestPromise13GreatestTotals trades as much as a script can, at the greatest price.
func TestPromise13GreatestTotals(t *testing.T) {
	var list []impl.Cmd
	for range impl.MaxCmds / 2 {
		list = append(list, newCmd(impl.SdSell, impl.TyLimit, impl.MaxQty, impl.MaxTicks), newCmd(impl.SdBuy, impl.TyMarket, impl.MaxQty, 0))
	}
	want := impl.Totals{Groups: 200, Accepted: 200, Trades: 100, Volume: 100000000, Notional: 100000000000000}
	if log := checkRun(t, "the greatest", list); log.Totals != want {
		t.Errorf("%+v", log.Totals)
	}
	list = nil
	for range impl.MaxOrders + 1 {
		list = append(list, newCmd(impl.SdBuy, impl.TyLimit, impl.MaxQty, 1))
	}
	want = impl.Totals{Groups: 21, Accepted: 20, Refused: 1, Live: 20, Left: 20000000}
	if log := checkRun(t, "the fullest", list); log.Totals != want {
		t.Errorf("%+v", log.Totals)
	}
}

func TestTotalsOfHowMany(t *testing.T) {
	end := []impl.Event{{Kind: impl.EvDayEnd}}
	wantTotalsCode(t, "none", nil, impl.OK)
	wantTotalsCode(t, "none", [][]impl.Event{}, impl.OK)
	for _, n := range []int{1, 199, 200, 201, 4096, 4097, 5000} {
		code := impl.OK
		switch {
		case n > 4096:
			code = impl.ErrLong
		case n > 200:
			code = impl.ErrMany
		}
		right := slices.Repeat([][]impl.Event{end}, n)
		wantTotalsCode(t, "right groups", right, code)
		wantTotalsCode(t, "empty groups", make([][]impl.Event, n), max(code, reasonIf(n <= 200, impl.ErrForm)))
		wantTotalsCode(t, "lawless groups", slices.Repeat([][]impl.Event{{{Kind: impl.EvDayEnd, Qty: 1}}}, n), max(code, reasonIf(n <= 200, impl.ErrLawless)))
	}
}

// TestTotalsOfFaultsInTurn asks that each fault is looked for over all groups ahead of the next one.
func TestTotalsOfFaultsInTurn(t *testing.T) {
	right, lawless := []impl.Event{{Kind: impl.EvDayEnd}}, []impl.Event{{Kind: impl.EvDayEnd, Qty: 1}}
	wrong := [][]impl.Event{nil, {}, {{}}, {{Kind: impl.EvTrade}}, {{Kind: impl.EvRest, Id: 1, Qty: 1}}}
	for _, bad := range wrong {
		for _, groups := range [][][]impl.Event{{bad}, {bad, right}, {right, bad}, {bad, lawless}, {lawless, bad}, {lawless, right, bad}} {
			wantTotalsCode(t, "no first event", groups, impl.ErrForm)
		}
	}
	for _, groups := range [][][]impl.Event{{lawless}, {right, lawless}, {lawless, right}} {
		wantTotalsCode(t, "lawless", groups, impl.ErrLawless)
	}
	wantTotalsCode(t, "right", [][]impl.Event{right, right}, impl.OK)
}

// TestTotalsOfFirstEvents begins a group with each kind of event, and with any other number.
func TestTotalsOfFirstEvents(t *testing.T) {
	starters := []int{impl.EvAccept, impl.EvRefuse, impl.EvCancel, impl.EvReduce, impl.EvDayEnd}
	kinds := append([]int{0, 10, 11}, oddNumbers...)
	for kind := 1; kind <= kindsOfEvents; kind++ {
		kinds = append(kinds, kind)
	}
	log := checkRun(t, "ahead", toldScript())
	for _, kind := range kinds {
		for _, e := range []impl.Event{{Kind: kind}, {Kind: kind, Id: 7, Qty: 6}, fullEvent(1 + (kind&7)%kindsOfEvents)} {
			e.Kind = kind
			for _, groups := range [][][]impl.Event{{{e}}, append(cloneGroups(log.Groups), []impl.Event{e})} {
				if code := checkTotals(t, "a first event", groups); (code == impl.ErrForm) == slices.Contains(starters, kind) {
					t.Errorf("a group that begins with kind %d is answered with %d", kind, code)
				}
			}
		}
	}
	wantTotalsCode(t, "a cancel", append(cloneGroups(log.Groups), []impl.Event{{Kind: impl.EvCancel, Id: 7, Qty: 6}}), impl.OK)
	wantTotalsCode(t, "a cancel of another Qty", append(cloneGroups(log.Groups), []impl.Event{{Kind: impl.EvCancel, Id: 7, Qty: 5}}), impl.ErrLawless)
	wantTotalsCode(t, "a reduce", append(cloneGroups(log.Groups), []impl.Event{{Kind: impl.EvReduce, Id: 7, Qty: 5}}), impl.OK)
	wantTotalsCode(t, "a reduce that takes nothing", append(cloneGroups(log.Groups), []impl.Event{{Kind: impl.EvReduce, Id: 7, Qty: 6}}), impl.ErrLawless)
	wantTotalsCode(t, "a day's end", append(cloneGroups(log.Groups), []impl.Event{{Kind: impl.EvDayEnd}}), impl.OK)
}

// TestTotalsOfOneEventMoreOrLess takes each event out, and puts each kind of event in everywhere.
func TestTotalsOfOneEventMoreOrLess(t *testing.T) {
	log := checkRun(t, "right", toldScript())
	for i, group := range log.Groups {
		for k := range group {
			less := cloneGroups(log.Groups)
			less[i] = slices.Delete(less[i], k, k+1)
			code := checkTotals(t, "an event less", less)
			if code != impl.ErrForm && (k == 0 || code != impl.ErrLawless) {
				t.Errorf("without event %d of group %d: %d", k, i, code)
			}
		}
		for k := range len(group) + 1 {
			for kind := 1; kind <= kindsOfEvents; kind++ {
				for _, e := range []impl.Event{plainEvent(kind), fullEvent(kind), group[max(k-1, 0)]} {
					more := cloneGroups(log.Groups)
					more[i] = slices.Insert(more[i], k, e)
					if code := checkTotals(t, "an event more", more); code != impl.ErrLawless && (k > 0 || code != impl.ErrForm) {
						t.Errorf("with %s at %d of group %d: %d", showEvent(e), k, i, code)
					}
				}
			}
		}
	}
}

// TestTotalsOfOneEventChanged changes each field of each event; a first event may tell another command then.
func TestTotalsOfOneEventChanged(t *testing.T) {
	log := checkRun(t, "right", toldScript())
	for i, group := range log.Groups {
		for k := range group {
			change := func(name string, do func(*impl.Event)) {
				t.Helper()
				groups := cloneGroups(log.Groups)
				do(&groups[i][k])
				code := checkTotals(t, fmt.Sprintf("%s of event %d of group %d", name, k, i), groups)
				if changed := !sameEvents(groups[i], group); changed && k > 0 && code != impl.ErrLawless {
					t.Errorf("%s of event %d of group %d changed: %d", name, k, i, code)
				}
			}
			for _, name := range wholeFields {
				for _, n := range []int{0, 1, 2, 3, 4, 5, 6, 7, 8, -1, 400, 1000001, leastInt, greatestInt} {
					change(name, func(e *impl.Event) { *field(e, name) = n })
				}
			}
			for kind := range kindsOfEvents + 2 {
				change("the kind", func(e *impl.Event) { e.Kind = kind })
			}
			for _, price := range edgePrices() {
				change("the price", func(e *impl.Event) { e.Cmd.Price = price })
			}
			for _, tag := range append(edgeTags(), longTags()...) {
				change("the tag", func(e *impl.Event) { e.Cmd.Tag = tag })
			}
		}
	}
}

// TestTotalsOfRefused asks for the command that is refused just as it is told.
func TestTotalsOfRefused(t *testing.T) {
	refuse := func(c impl.Cmd, reason int) [][]impl.Event {
		return [][]impl.Event{{{Kind: impl.EvRefuse, Cmd: c, Reason: reason}}}
	}
	for _, price := range edgePrices() {
		c := cancelCmd(1)
		c.Price = price
		zero := isZeroPrice(price)
		wantTotalsCode(t, "a price", refuse(c, impl.RfForm), reasonIf(zero, impl.ErrLawless))
		wantTotalsCode(t, "a price", refuse(c, impl.RfId), reasonIf(!zero, impl.ErrLawless))
	}
	for n := range 20 {
		c := newCmd(impl.SdBuy, impl.TyLimit, 1, 4)
		c.Tag = strings.Repeat("t", n)
		wantTotalsCode(t, "a tag", refuse(c, impl.RfTag), reasonIf(n != 13, impl.ErrLawless))
	}
	for reason := -1; reason <= 15; reason++ {
		wantTotalsCode(t, "a reason", refuse(impl.Cmd{Kind: 9}, reason), reasonIf(reason != impl.RfKind, impl.ErrLawless))
		wantTotalsCode(t, "no reason", refuse(newCmd(impl.SdBuy, impl.TyLimit, 1, 4), reason), impl.ErrLawless)
	}
}

// TestTotalsOfAnyGroups spoils the groups of any script in any way.
func TestTotalsOfAnyGroups(t *testing.T) {
	p := picker{64}
	codes := map[int]int{}
	for range 3000 {
		log := wantRun(pickScript(&p, 1+p.below(30)))
		groups := cloneGroups(log.Groups)
		spoilGroups(&p, groups)
		switch at := p.below(len(groups)); p.below(6) {
		case 0:
			groups = slices.Delete(groups, at, at+1)
		case 1:
			other := p.below(len(groups))
			groups[at], groups[other] = groups[other], groups[at]
		case 2:
			groups = slices.Insert(groups, at, groups[p.below(len(groups))])
		}
		codes[checkTotals(t, "any groups", groups)]++
	}
	if codes[impl.OK] < 200 || codes[impl.ErrForm] < 50 || codes[impl.ErrLawless] < 1000 {
		t.Errorf("%v: the test asks too little", codes)
	}
}

// spoilGroups changes an event of one group, or leaves all as they are.
func spoilGroups(p *picker, groups [][]impl.Event) {
	at := p.below(len(groups))
	place := p.below(len(groups[at]))
	e := &groups[at][place]
	switch p.below(6) {
	case 0:
		groups[at] = slices.Delete(groups[at], place, place+1)
	case 1:
		groups[at] = slices.Insert(groups[at], place, groups[p.below(len(groups))][0])
	case 2:
		*field(e, wholeFields[p.below(len(wholeFields))]) += 1 - 2*p.below(2)
	case 3:
		e.Kind = 1 + p.below(kindsOfEvents)
	case 4:
		e.Cmd.Price += 0.25
	}
}
