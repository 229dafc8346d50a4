package tests

import (
	"fmt"
	"math"
	"slices"
	"strings"
	"testing"

	"loop.example/g00092/impl"
)

// The model works chapter 5 out by its sentences: each reason on its own, and
// what an order trades by how much those ahead of it take.

func wantTicks(x float64) (int, bool) {
	if x > 0 && x <= 250000 && math.Mod(x, 0.25) == 0 {
		return int(x / 0.25), true
	}
	return 0, false
}

func isZeroPrice(x float64) bool { return math.Float64bits(x) == 0 }

// hasForm says that no field is set but those that the kind has.
func hasForm(c impl.Cmd) bool {
	has := map[int]string{1: "side type life qty price tag", 2: "id", 3: "id qty", 4: ""}[c.Kind]
	set := map[string]bool{
		"side": c.Side != 0, "type": c.Type != 0, "life": c.Life != 0, "qty": c.Qty != 0, "id": c.Id != 0,
		"price": !isZeroPrice(c.Price), "tag": c.Tag != "",
	}
	for name, isSet := range set {
		if isSet && !slices.Contains(strings.Fields(has), name) {
			return false
		}
	}
	return true
}

func orderOf(b impl.Book, id int) (impl.Order, bool) {
	for _, o := range b.Orders {
		if o.Id == id {
			return o, true
		}
	}
	return impl.Order{}, false
}

func wantMeets(c impl.Cmd, front impl.Order) bool {
	ticks, _ := wantTicks(c.Price)
	switch {
	case c.Type == impl.TyMarket:
		return true
	case c.Side == impl.SdBuy:
		return front.Ticks <= ticks
	}
	return front.Ticks >= ticks
}

// wantTrades gives each order that is met what those ahead of it leave over.
func wantTrades(b impl.Book, c impl.Cmd) ([]impl.Event, int) {
	var out []impl.Event
	ahead := 0
	for _, o := range wantQueue(b, 3-c.Side) {
		if !wantMeets(c, o) {
			continue
		}
		if qty := min(o.Left, c.Qty-ahead); qty > 0 {
			out = append(out, impl.Event{Kind: impl.EvTrade, Id: b.Next, Other: o.Id, Qty: qty, Price: o.Ticks})
		}
		ahead += o.Left
	}
	return out, max(0, c.Qty-ahead)
}

func wantRests(c impl.Cmd) bool { return c.Type == impl.TyLimit || c.Type == impl.TyPost }

// wantNewBook is the book behind a new order, however full it is.
func wantNewBook(b impl.Book, c impl.Cmd) impl.Book {
	trades, left := wantTrades(b, c)
	gone := map[int]int{}
	for _, e := range trades {
		gone[e.Other] = e.Qty
	}
	out := impl.Book{Next: b.Next + 1}
	for _, o := range b.Orders {
		if o.Left -= gone[o.Id]; o.Left > 0 {
			out.Orders = append(out.Orders, o)
		}
	}
	if left > 0 && wantRests(c) {
		ticks, _ := wantTicks(c.Price)
		out.Orders = append(out.Orders, impl.Order{Id: b.Next, Side: c.Side, Ticks: ticks, Left: left, Life: c.Life, Tag: c.Tag})
	}
	return out
}

// wantReason asks the reasons of the document's table, one behind the other.
func wantReason(b impl.Book, c impl.Cmd) int {
	isNew, isReduce := c.Kind == impl.CmNew, c.Kind == impl.CmReduce
	reasons := []func() bool{
		func() bool { return c.Kind < 1 || c.Kind > 4 },
		func() bool { return !hasForm(c) },
		func() bool { return isNew && c.Side != 1 && c.Side != 2 },
		func() bool { return isNew && (c.Type < 1 || c.Type > 5) },
		func() bool { return isNew && c.Life != 0 && (c.Life != 1 || !wantRests(c)) },
		func() bool {
			_, ok := wantTicks(c.Price)
			return isNew && (c.Type == impl.TyMarket && !isZeroPrice(c.Price) || c.Type != impl.TyMarket && !ok)
		},
		func() bool { return (isNew || isReduce) && (c.Qty < 1 || c.Qty > 1000000) },
		func() bool { return isNew && !wantTag(c.Tag) },
		func() bool {
			_, ok := orderOf(b, c.Id)
			return !ok && (isReduce || c.Kind == impl.CmCancel)
		},
		func() bool {
			o, _ := orderOf(b, c.Id)
			return isReduce && c.Qty >= o.Left
		},
		func() bool {
			trades, _ := wantTrades(b, c)
			return isNew && c.Type == impl.TyPost && len(trades) > 0
		},
		func() bool {
			_, left := wantTrades(b, c)
			return isNew && c.Type == impl.TyFok && left > 0
		},
		func() bool {
			if !isNew || b.Next == 1000000 {
				return isNew
			}
			_, left := wantTrades(b, c)
			after := wantNewBook(b, c)
			return wantRests(c) && left > 0 && (len(after.Orders) > 20 || len(wantLevels(after)) > 8)
		},
	}
	for i, stands := range reasons {
		if stands() {
			return i + 1
		}
	}
	return 0
}

func wantStep(b impl.Book, c impl.Cmd) (impl.Book, []impl.Event) {
	if reason := wantReason(b, c); reason != 0 {
		c.Tag = c.Tag[:min(len(c.Tag), 13)]
		return b, []impl.Event{{Kind: impl.EvRefuse, Cmd: c, Reason: reason}}
	}
	if c.Kind == impl.CmNew {
		return wantNewBook(b, c), wantNewGroup(b, c)
	}
	out, group := impl.Book{Next: b.Next}, []impl.Event{}
	switch o, _ := orderOf(b, c.Id); c.Kind {
	case impl.CmCancel:
		group = append(group, impl.Event{Kind: impl.EvCancel, Id: c.Id, Qty: o.Left})
	case impl.CmReduce:
		group = append(group, impl.Event{Kind: impl.EvReduce, Id: c.Id, Qty: c.Qty})
	case impl.CmDayEnd:
		group = append(group, impl.Event{Kind: impl.EvDayEnd})
	}
	for _, o := range b.Orders {
		switch {
		case c.Kind == impl.CmDayEnd && o.Life == impl.LfDay:
			group[0].Qty++
			group = append(group, impl.Event{Kind: impl.EvExpire, Id: o.Id, Qty: o.Left})
			continue
		case c.Kind == impl.CmCancel && o.Id == c.Id:
			continue
		case c.Kind == impl.CmReduce && o.Id == c.Id:
			o.Left = c.Qty
		}
		out.Orders = append(out.Orders, o)
	}
	return out, group
}

func wantNewGroup(b impl.Book, c impl.Cmd) []impl.Event {
	trades, left := wantTrades(b, c)
	group := append([]impl.Event{{Kind: impl.EvAccept, Cmd: c, Id: b.Next}}, trades...)
	switch {
	case left == 0:
	case wantRests(c):
		group = append(group, impl.Event{Kind: impl.EvRest, Id: b.Next, Qty: left})
	default:
		group = append(group, impl.Event{Kind: impl.EvDrop, Id: b.Next, Qty: left})
	}
	return group
}

// wantRun lays the model's groups one behind the other.
func wantRun(list []impl.Cmd) impl.RunLog {
	log := impl.RunLog{Book: impl.Book{Next: 1}}
	for _, c := range list {
		var group []impl.Event
		log.Book, group = wantStep(log.Book, c)
		log.Groups = append(log.Groups, group)
	}
	log.Totals = wantTotals(log.Groups, log.Book)
	return log
}

func wantTotals(groups [][]impl.Event, b impl.Book) impl.Totals {
	var t impl.Totals
	t.Groups = len(groups)
	for _, e := range slices.Concat(groups...) {
		t.Accepted += map[int]int{impl.EvAccept: 1}[e.Kind]
		t.Refused += map[int]int{impl.EvRefuse: 1}[e.Kind]
		t.Trades += map[int]int{impl.EvTrade: 1}[e.Kind]
		t.Volume += map[int]int{impl.EvTrade: e.Qty}[e.Kind]
		t.Notional += map[int]int{impl.EvTrade: e.Qty * e.Price}[e.Kind]
	}
	t.Live = len(b.Orders)
	for _, o := range b.Orders {
		t.Left += o.Left
	}
	return t
}

func sameBook(b, c impl.Book) bool {
	return b.Next == c.Next && slices.Equal(b.Orders, c.Orders)
}

func sameGroups(one, two [][]impl.Event) bool {
	return slices.EqualFunc(one, two, sameEvents)
}

func showCmd(c impl.Cmd) string {
	tag := c.Tag
	c.Tag = ""
	return fmt.Sprintf("%+v with a Tag of %d bytes %+q", c, len(tag), tag[:min(len(tag), 20)])
}

func showGroup(group []impl.Event) string {
	var out strings.Builder
	for i, e := range group {
		if i > 30 {
			out.WriteString(" ..")
			break
		}
		if e.Kind == impl.EvAccept || e.Kind == impl.EvRefuse {
			fmt.Fprintf(&out, " {%d id %d reason %d: %s}", e.Kind, e.Id, e.Reason, showCmd(e.Cmd))
			continue
		}
		fmt.Fprintf(&out, " {%d id %d other %d qty %d price %d}", e.Kind, e.Id, e.Other, e.Qty, e.Price)
	}
	return out.String()
}

// checkStep asks the engine and the model about a command, and hands out what the engine answered.
func checkStep(t *testing.T, name string, b impl.Book, c impl.Cmd) (impl.Book, []impl.Event) {
	t.Helper()
	if reason, code := impl.ReasonOf(b, c); code != impl.OK || reason != wantReason(b, c) {
		t.Fatalf("%s: ReasonOf = %d, %d, not %d, of %s and %s", name, reason, code, wantReason(b, c), showCmd(c), showBook(b))
	}
	after, group, code := impl.StepBook(b, c)
	wantBook, wantGroup := wantStep(b, c)
	if code != impl.OK || !sameEvents(group, wantGroup) {
		t.Fatalf("%s: the group is%s, %d, not%s, of %s and %s", name, showGroup(group), code, showGroup(wantGroup), showCmd(c), showBook(b))
	}
	if !sameBook(after, wantBook) {
		t.Fatalf("%s: the book becomes %s, not %s, of %s and %s", name, showBook(after), showBook(wantBook), showCmd(c), showBook(b))
	}
	checkSound(t, name, b, c, after, group)
	return after, group
}

// checkSound asks what holds of every step, without the model.
func checkSound(t *testing.T, name string, b impl.Book, c impl.Cmd, after impl.Book, group []impl.Event) {
	t.Helper()
	if !wantBookOK(after) {
		t.Fatalf("%s: the book is wrong, %s, behind %s and %s", name, showBook(after), showCmd(c), showBook(b))
	}
	for _, e := range group {
		if !impl.EventOK(e) {
			t.Fatalf("%s: the event %s is wrong", name, showEvent(e))
		}
	}
	lacks := kept(b) - kept(after)
	for _, e := range group {
		switch e.Kind {
		case impl.EvAccept:
			lacks += e.Cmd.Qty
		case impl.EvTrade:
			lacks -= 2 * e.Qty
		case impl.EvDrop, impl.EvCancel, impl.EvExpire:
			lacks -= e.Qty
		case impl.EvReduce:
			o, _ := orderOf(b, e.Id)
			lacks -= o.Left - e.Qty
		}
	}
	if lacks != 0 {
		t.Fatalf("%s: %d is lost in%s of %s and %s", name, lacks, showGroup(group), showCmd(c), showBook(b))
	}
}

// kept is what all orders of a book have left.
func kept(b impl.Book) int {
	sum := 0
	for _, o := range b.Orders {
		sum += o.Left
	}
	return sum
}
