package tests

import (
	"fmt"
	"math"
	"slices"
	"strings"
	"testing"

	"loop.example/g00092/impl"
)

var bothSides = []int{impl.SdBuy, impl.SdSell}

var allTypes = []int{impl.TyLimit, impl.TyMarket, impl.TyIoc, impl.TyFok, impl.TyPost}

// oddNumbers are no kind, side, type, life or Id.
var oddNumbers = []int{leastInt, leastInt + 1, -3, -2, -1, 6, 7, 255, 256, 257, 1 << 32, 1<<32 + 1, greatestInt - 1, greatestInt}

var minusNought = math.Copysign(0, -1)

// newCmd is a new order that has just its Type's Price; ticks count for nothing at the market.
func newCmd(side, orderType, qty, ticks int) impl.Cmd {
	c := impl.Cmd{Kind: impl.CmNew, Side: side, Type: orderType, Qty: qty, Price: float64(ticks) / 4}
	if orderType == impl.TyMarket {
		c.Price = 0
	}
	return c
}

func cancelCmd(id int) impl.Cmd { return impl.Cmd{Kind: impl.CmCancel, Id: id} }

func reduceCmd(id, qty int) impl.Cmd { return impl.Cmd{Kind: impl.CmReduce, Id: id, Qty: qty} }

func wantRefused(t *testing.T, name string, b impl.Book, c impl.Cmd, reason int) {
	t.Helper()
	after, group := checkStep(t, name, b, c)
	if len(group) != 1 || group[0].Kind != impl.EvRefuse || group[0].Reason != reason {
		t.Fatalf("%s: the group is%s, not a refusal for %d, of %s and %s", name, showGroup(group), reason, showCmd(c), showBook(b))
	}
	cut := c
	cut.Tag = c.Tag[:min(len(c.Tag), impl.MaxStr+1)]
	if !sameCmd(group[0].Cmd, cut) || !sameBook(after, b) {
		t.Fatalf("%s: refused is%s, the book %s, of %s and %s", name, showGroup(group), showBook(after), showCmd(c), showBook(b))
	}
}

func wantTaken(t *testing.T, name string, b impl.Book, c impl.Cmd) (impl.Book, []impl.Event) {
	t.Helper()
	after, group := checkStep(t, name, b, c)
	if group[0].Kind == impl.EvRefuse {
		t.Fatalf("%s: the group is%s of %s and %s", name, showGroup(group), showCmd(c), showBook(b))
	}
	return after, group
}

// wantEither asks for a refusal, or with the reason 0 for none.
func wantEither(t *testing.T, name string, b impl.Book, c impl.Cmd, reason int) {
	t.Helper()
	if reason == 0 {
		wantTaken(t, name, b, c)
	} else {
		wantRefused(t, name, b, c, reason)
	}
}

func reasonIf(refused bool, reason int) int {
	if refused {
		return reason
	}
	return 0
}

func TestEngineConstants(t *testing.T) {
	got := []int{
		impl.RfKind, impl.RfForm, impl.RfSide, impl.RfType, impl.RfLife, impl.RfPrice, impl.RfQty,
		impl.RfTag, impl.RfId, impl.RfMore, impl.RfPost, impl.RfFill, impl.RfFull,
	}
	for i, n := range got {
		if n != i+1 {
			t.Errorf("reason %d is %d", i+1, n)
		}
	}
	if impl.MaxCmds != 200 {
		t.Error("MaxCmds is", impl.MaxCmds)
	}
}

func TestReasonOfKinds(t *testing.T) {
	b := ordinaryBook()
	for _, kind := range append([]int{0, 5}, oddNumbers...) {
		wantRefused(t, "a kind alone", b, impl.Cmd{Kind: kind}, impl.RfKind)
		c := newCmd(impl.SdBuy, impl.TyLimit, 1, 4)
		c.Kind = kind
		wantRefused(t, "like a new one", b, c, impl.RfKind)
		c = reduceCmd(2, 1)
		c.Kind = kind
		wantRefused(t, "like a reduce", b, c, impl.RfKind)
		wantRefused(t, "all fields", b, impl.Cmd{Kind: kind, Side: -1, Type: -1, Life: -1, Qty: -1, Id: -1, Price: math.NaN(), Tag: "\n"}, impl.RfKind)
	}
	wantTaken(t, "new", b, newCmd(impl.SdBuy, impl.TyLimit, 1, 4))
	wantTaken(t, "cancel", b, cancelCmd(2))
	wantTaken(t, "reduce", b, reduceCmd(2, 1))
	wantTaken(t, "day end", b, impl.Cmd{Kind: impl.CmDayEnd})
}

// withField changes one field of a command to a number; price and tag have one of their own.
func withField(c impl.Cmd, name string, n int) impl.Cmd {
	e := impl.Event{Cmd: c}
	*field(&e, "cmd."+name) = n
	return e.Cmd
}

// TestReasonOfForms sets each field that a kind has not, and sets none to zero by way of +0.
func TestReasonOfForms(t *testing.T) {
	b := ordinaryBook()
	cases := []struct {
		c      impl.Cmd
		hasNot string
	}{
		{newCmd(impl.SdBuy, impl.TyLimit, 1, 4), "id"},
		{newCmd(impl.SdSell, impl.TyMarket, 1, 0), "id"},
		{cancelCmd(2), "side type life qty price tag"},
		{reduceCmd(2, 1), "side type life price tag"},
		{impl.Cmd{Kind: impl.CmDayEnd}, "side type life qty id price tag"},
	}
	for _, one := range cases {
		wantTaken(t, "nothing more", b, one.c)
		for _, name := range strings.Fields(one.hasNot) {
			switch name {
			case "price":
				for _, price := range edgePrices() {
					c := one.c
					c.Price = price
					wantEither(t, "a Price", b, c, reasonIf(!isZeroPrice(price), impl.RfForm))
				}
			case "tag":
				for _, tag := range append(edgeTags(), longTags()...) {
					c := one.c
					c.Tag = tag
					wantEither(t, "a Tag", b, c, reasonIf(tag != "", impl.RfForm))
				}
			default:
				for _, n := range append([]int{1, 2, 3, 4, 5}, oddNumbers...) {
					wantRefused(t, name, b, withField(one.c, name, n), impl.RfForm)
				}
			}
		}
	}
}

func TestReasonOfSidesTypesAndLives(t *testing.T) {
	b := ordinaryBook()
	for _, side := range append([]int{0, 1, 2, 3, 4, 5}, oddNumbers...) {
		c := newCmd(side, impl.TyLimit, 1, 400)
		wantEither(t, "a Side", b, c, reasonIf(side != 1 && side != 2, impl.RfSide))
	}
	for _, orderType := range append([]int{0, 1, 2, 3, 4, 5}, oddNumbers...) {
		c := newCmd(impl.SdSell, orderType, 1, 399)
		reason := reasonIf(orderType < 1 || orderType > 5, impl.RfType)
		if orderType == impl.TyPost {
			reason = impl.RfPost
		}
		wantEither(t, "a Type", b, c, reason)
	}
	for _, orderType := range allTypes {
		for _, life := range append([]int{0, 1, 2, 3, 4, 5}, oddNumbers...) {
			c := newCmd(impl.SdBuy, orderType, 1, 399)
			c.Life = life
			mayBeOfDay := orderType == impl.TyLimit || orderType == impl.TyPost
			reason := reasonIf(life != 0 && (life != 1 || !mayBeOfDay), impl.RfLife)
			if reason == 0 && orderType == impl.TyFok {
				reason = impl.RfFill
			}
			wantEither(t, "a Life", b, c, reason)
		}
	}
}

// pricesThatAreNone are those of which Ticks says false.
func pricesThatAreNone() []float64 {
	out := []float64{
		0, minusNought, math.Inf(1), math.Inf(-1), math.NaN(), -0.25, -1, -100, 0.1, 0.2, 0.24, 0.26, 0.125, 1.1, 99.99, 100.125,
		250000.25, 250001, 1000000, 1e300, -1e300, math.MaxFloat64, math.SmallestNonzeroFloat64, 1e-300, 5e15, 0.25 + 1e-12,
		math.Nextafter(0.25, 0), math.Nextafter(0.25, 1), math.Nextafter(250000, 0), math.Nextafter(250000, 1e9),
	}
	for _, bits := range otherNaNBits() {
		out = append(out, math.Float64frombits(bits))
	}
	return out
}

func TestReasonOfPrices(t *testing.T) {
	for _, b := range []impl.Book{{Next: 1}, ordinaryBook()} {
		for _, side := range bothSides {
			for _, price := range pricesThatAreNone() {
				for _, orderType := range allTypes {
					c := newCmd(side, orderType, 1, 0)
					c.Price = price
					atMarket := orderType == impl.TyMarket && isZeroPrice(price)
					wantEither(t, "a Price that is none", b, c, reasonIf(!atMarket, impl.RfPrice))
				}
			}
			for _, ticks := range []int{1, 2, 3, 4, 5, 999999, 1000000} {
				c := newCmd(side, impl.TyIoc, 1, ticks)
				wantTaken(t, "a Price", b, c)
				c.Type = impl.TyMarket
				wantRefused(t, "a Price at the market", b, c, impl.RfPrice)
			}
		}
	}
}

func TestReasonOfQtys(t *testing.T) {
	b := rowBook(impl.SdBuy, 4, 3)
	b.Orders[1].Left = impl.MaxQty
	for _, qty := range append([]int{0, 1, 2, 999999, 1000000, 1000001}, oddNumbers...) {
		wrong := qty < 1 || qty > 1000000
		for _, orderType := range allTypes {
			reason := reasonIf(wrong, impl.RfQty)
			c := newCmd(impl.SdSell, orderType, qty, 1)
			if reason == 0 && orderType == impl.TyPost {
				reason = impl.RfPost
			}
			wantEither(t, "a Qty of new", b, c, reason)
		}
		wantEither(t, "a Qty of reduce", b, reduceCmd(2, qty), max(reasonIf(wrong, impl.RfQty), reasonIf(qty == 1000000, impl.RfMore)))
		wantEither(t, "a Qty of reduce without an order", b, reduceCmd(9, qty), max(reasonIf(wrong, impl.RfQty), reasonIf(!wrong, impl.RfId)))
	}
}

func TestReasonOfTags(t *testing.T) {
	for _, side := range bothSides {
		for _, orderType := range allTypes {
			add := func(tag string, right bool) {
				t.Helper()
				b := behind(rowBook(impl.SdBuy, 5), rowBook(impl.SdSell, 8))
				c := newCmd(side, orderType, 1, map[int]int{impl.SdBuy: 8, impl.SdSell: 5}[side])
				if orderType == impl.TyPost {
					b = impl.Book{Next: 5}
				}
				c.Tag = tag
				wantEither(t, "a Tag", b, c, reasonIf(!right, impl.RfTag))
			}
			for n := range 30 {
				add(strings.Repeat(" ", n), n <= 12)
			}
			for one := range 256 {
				right := one >= 32 && one <= 126
				add(string([]byte{byte(one)}), right)
				add("12345678901"+string([]byte{byte(one)}), right)
				add("123456789012"+string([]byte{byte(one)}), false)
				add(string([]byte{byte(one)})+"~", right)
			}
			add(strings.Repeat("x", impl.MaxText+1), false)
		}
	}
}

func TestReasonOfIds(t *testing.T) {
	b := ordinaryBook()
	for id := -2; id <= 14; id++ {
		o, has := orderOf(b, id)
		wantEither(t, "cancel", b, cancelCmd(id), reasonIf(!has, impl.RfId))
		for qty := 1; qty <= 10; qty++ {
			reason := reasonIf(has && qty >= o.Left, impl.RfMore)
			wantEither(t, "reduce", b, reduceCmd(id, qty), max(reason, reasonIf(!has, impl.RfId)))
		}
	}
	for _, id := range oddNumbers {
		if id != 6 && id != 7 {
			wantRefused(t, "cancel", b, cancelCmd(id), impl.RfId)
			wantRefused(t, "reduce", b, reduceCmd(id, 1), impl.RfId)
		}
	}
	wantRefused(t, "cancel", impl.Book{Next: 4}, cancelCmd(1), impl.RfId)
	wantRefused(t, "reduce", impl.Book{Next: 4}, reduceCmd(1, 1), impl.RfId)
}

// TestFirstReasonCounts mends a command that has everything wrong, in the order of the table.
func TestFirstReasonCounts(t *testing.T) {
	b := fullBook()
	b.Next = impl.MaxIds
	c := impl.Cmd{Kind: 9, Side: 3, Type: 0, Life: 2, Qty: 0, Id: 77, Price: minusNought, Tag: "too long for a Tag"}
	mends := []func(){
		func() { c.Kind = impl.CmNew },
		func() { c.Id = 0 },
		func() { c.Side = impl.SdBuy },
		func() { c.Type = impl.TyPost },
		func() { c.Life = impl.LfDay },
		func() { c.Price = 5 },
		func() { c.Qty = 1000 },
		func() { c.Tag = "short" },
	}
	reason := impl.RfKind
	for _, mend := range mends {
		wantRefused(t, "not mended yet", b, c, reason)
		mend()
		reason++
	}
	wantRefused(t, "it would trade", b, c, impl.RfPost)
	c.Type, c.Life = impl.TyFok, impl.LfStay
	wantRefused(t, "it would not trade whole", b, c, impl.RfFill)
	c.Qty = 2
	wantRefused(t, "no Id is left", b, c, impl.RfFull)
	c.Type, c.Price = impl.TyPost, 4.75
	wantRefused(t, "no Id and no room is left", b, c, impl.RfFull)
	wantRefused(t, "Qty ahead of Id", b, reduceCmd(30, 0), impl.RfQty)
	wantRefused(t, "Qty ahead of more", b, reduceCmd(1, impl.MaxQty+1), impl.RfQty)
	wantRefused(t, "Id ahead of more", b, reduceCmd(30, impl.MaxQty), impl.RfId)
}

// TestFirstReasonOfMany sets every pair of fields wrong, and many more.
func TestFirstReasonOfMany(t *testing.T) {
	books := []impl.Book{ordinaryBook(), fullBook()}
	books[1].Next = impl.MaxIds
	for _, kind := range []int{0, 1, 2, 3, 4, 5} {
		for _, side := range []int{0, 1, 2, 3} {
			for _, orderType := range []int{0, 1, 2, 3, 4, 5, 6} {
				for _, life := range []int{0, 1, 2} {
					for _, qty := range []int{0, 1, 30, 1000000, 1000001} {
						for _, id := range []int{0, 2, 5} {
							for _, price := range []float64{0, minusNought, math.NaN(), 2.5, 99.75, 100, 100.1} {
								for i, tag := range []string{"", "tag", "\x1f", "1234567890123"} {
									c := impl.Cmd{Kind: kind, Side: side, Type: orderType, Life: life, Qty: qty, Id: id, Price: price, Tag: tag}
									b := books[i%2]
									if got, code := impl.ReasonOf(b, c); got != wantReason(b, c) || code != impl.OK {
										t.Fatalf("ReasonOf = %d, %d, not %d, of %s and %s", got, code, wantReason(b, c), showCmd(c), showBook(b))
									}
								}
							}
						}
					}
				}
			}
		}
	}
}

func TestReduce(t *testing.T) {
	b := ordinaryBook()
	for i, o := range b.Orders {
		for _, qty := range []int{1, o.Left - 1} {
			if qty < 1 || qty >= o.Left {
				continue
			}
			after, group := wantTaken(t, "reduce", b, reduceCmd(o.Id, qty))
			want := cloneBook(b)
			want.Orders[i].Left = qty
			if !sameBook(after, want) || !sameEvents(group, []impl.Event{{Kind: impl.EvReduce, Id: o.Id, Qty: qty}}) {
				t.Errorf("reduced: %s,%s", showBook(after), showGroup(group))
			}
		}
		for _, qty := range []int{o.Left, o.Left + 1, impl.MaxQty} {
			wantRefused(t, "not less", b, reduceCmd(o.Id, qty), impl.RfMore)
		}
	}
}

func TestCancel(t *testing.T) {
	b := ordinaryBook()
	for i, o := range b.Orders {
		after, group := wantTaken(t, "cancel", b, cancelCmd(o.Id))
		want := impl.Book{Next: b.Next, Orders: slices.Delete(slices.Clone(b.Orders), i, i+1)}
		if !sameBook(after, want) || !sameEvents(group, []impl.Event{{Kind: impl.EvCancel, Id: o.Id, Qty: o.Left}}) {
			t.Errorf("cancelled: %s,%s", showBook(after), showGroup(group))
		}
		wantRefused(t, "gone", after, cancelCmd(o.Id), impl.RfId)
	}
	after, _ := wantTaken(t, "the last one", rowBook(impl.SdSell, 4), cancelCmd(1))
	if !sameBook(after, impl.Book{Next: 2}) {
		t.Error("the last one:", showBook(after))
	}
}

// TestEnginesGroups has its groups written out.
func TestEnginesGroups(t *testing.T) {
	b := ordinaryBook()
	trade := func(other, qty, price int) impl.Event {
		return impl.Event{Kind: impl.EvTrade, Id: 12, Other: other, Qty: qty, Price: price}
	}
	left := func(kind, qty int) impl.Event { return impl.Event{Kind: kind, Id: 12, Qty: qty} }
	cases := []struct {
		c    impl.Cmd
		want []impl.Event
		ids  []int
	}{
		{newCmd(1, impl.TyLimit, 9, 399), []impl.Event{left(impl.EvRest, 9)}, []int{2, 3, 4, 6, 7, 8, 11, 12}},
		{newCmd(1, impl.TyLimit, 3, 400), []impl.Event{trade(6, 3, 400)}, []int{2, 3, 4, 7, 8, 11}},
		{newCmd(1, impl.TyLimit, 4, 400), []impl.Event{trade(6, 3, 400), left(impl.EvRest, 1)}, []int{2, 3, 4, 7, 8, 11, 12}},
		{newCmd(1, impl.TyIoc, 4, 400), []impl.Event{trade(6, 3, 400), left(impl.EvDrop, 1)}, []int{2, 3, 4, 7, 8, 11}},
		{newCmd(1, impl.TyIoc, 4, 399), []impl.Event{left(impl.EvDrop, 4)}, []int{2, 3, 4, 6, 7, 8, 11}},
		{newCmd(1, impl.TyFok, 14, 401), []impl.Event{trade(6, 3, 400), trade(3, 2, 401), trade(8, 9, 401)}, []int{2, 4, 7, 11}},
		{newCmd(1, impl.TyFok, 6, 500), []impl.Event{trade(6, 3, 400), trade(3, 2, 401), trade(8, 1, 401)}, []int{2, 4, 7, 8, 11}},
		{newCmd(1, impl.TyMarket, 20, 0), []impl.Event{trade(6, 3, 400), trade(3, 2, 401), trade(8, 9, 401), left(impl.EvDrop, 6)}, []int{2, 4, 7, 11}},
		{newCmd(2, impl.TyMarket, 8, 0), []impl.Event{trade(4, 1, 399), trade(2, 5, 398), trade(7, 2, 398)}, []int{3, 6, 7, 8, 11}},
		{newCmd(2, impl.TyLimit, 20, 398), []impl.Event{trade(4, 1, 399), trade(2, 5, 398), trade(7, 4, 398), left(impl.EvRest, 10)}, []int{3, 6, 8, 11, 12}},
		{newCmd(2, impl.TyPost, 2, 400), []impl.Event{left(impl.EvRest, 2)}, []int{2, 3, 4, 6, 7, 8, 11, 12}},
		{newCmd(2, impl.TyLimit, 17, 1), []impl.Event{trade(4, 1, 399), trade(2, 5, 398), trade(7, 4, 398), trade(11, 7, 397)}, []int{3, 6, 8}},
	}
	for _, one := range cases {
		after, group := wantTaken(t, "a group", b, one.c)
		want := append([]impl.Event{{Kind: impl.EvAccept, Cmd: one.c, Id: 12}}, one.want...)
		if !sameEvents(group, want) || after.Next != 13 {
			t.Errorf("%s makes%s, not%s", showCmd(one.c), showGroup(group), showGroup(want))
		}
		var ids []int
		for _, o := range after.Orders {
			ids = append(ids, o.Id)
		}
		if !slices.Equal(ids, one.ids) {
			t.Errorf("%s leaves %v, not %v", showCmd(one.c), ids, one.ids)
		}
	}
}

func TestWhatRests(t *testing.T) {
	for _, side := range bothSides {
		for _, orderType := range []int{impl.TyLimit, impl.TyPost} {
			for _, life := range []int{impl.LfStay, impl.LfDay} {
				c := newCmd(side, orderType, 1000000, 1000000)
				c.Life, c.Tag = life, "~ ~ ~ ~ ~ ~ "
				after, _ := wantTaken(t, "it rests", impl.Book{Next: 7}, c)
				want := impl.Order{Id: 7, Side: side, Ticks: 1000000, Left: 1000000, Life: life, Tag: "~ ~ ~ ~ ~ ~ "}
				if !sameBook(after, impl.Book{Next: 8, Orders: []impl.Order{want}}) {
					t.Errorf("what rests is %s", showBook(after))
				}
			}
		}
	}
}

// TestPostAndFillJust goes along the front tick by tick, and along what it has unit by unit.
func TestPostAndFillJust(t *testing.T) {
	b := behind(rowBook(impl.SdBuy, 10, 12, 12, 9), rowBook(impl.SdSell, 22, 20, 20, 25))
	fronts := map[int]int{impl.SdBuy: 20, impl.SdSell: 12}
	for _, side := range bothSides {
		for ticks := 1; ticks <= 40; ticks++ {
			meets := side == impl.SdBuy && ticks >= fronts[side] || side == impl.SdSell && ticks <= fronts[side]
			wantEither(t, "post", b, newCmd(side, impl.TyPost, 1, ticks), reasonIf(meets, impl.RfPost))
			total := 0
			for _, o := range b.Orders {
				if o.Side != side && wantMeets(newCmd(side, impl.TyFok, 1, ticks), o) {
					total += o.Left
				}
			}
			for _, qty := range []int{1, total - 1, total, total + 1, 1000000} {
				if qty < 1 {
					continue
				}
				wantEither(t, "fill or kill", b, newCmd(side, impl.TyFok, qty, ticks), reasonIf(qty > total, impl.RfFill))
			}
		}
	}
	wantRefused(t, "no order to fill it", impl.Book{Next: 1}, newCmd(1, impl.TyFok, 1, 4), impl.RfFill)
	wantTaken(t, "no order to meet", impl.Book{Next: 1}, newCmd(2, impl.TyPost, 1, 4))
}

func TestLastId(t *testing.T) {
	for _, side := range bothSides {
		for _, orderType := range allTypes {
			for _, near := range []bool{false, true} {
				b := behind(rowBook(impl.SdBuy, 10), rowBook(impl.SdSell, 20))
				c := newCmd(side, orderType, 5, 15)
				if near {
					c = newCmd(side, orderType, 5, map[int]int{impl.SdBuy: 20, impl.SdSell: 10}[side])
				}
				reason := impl.RfFull
				switch {
				case near && orderType == impl.TyPost:
					reason = impl.RfPost
				case !near && orderType == impl.TyFok:
					reason = impl.RfFill
				}
				b.Next = impl.MaxIds
				wantRefused(t, "no Id is left", b, c, reason)
				b.Next = impl.MaxIds - 1
				if reason == impl.RfFull {
					if after, _ := wantTaken(t, "the last Id", b, c); after.Next != impl.MaxIds {
						t.Error("Next becomes", after.Next)
					}
				} else {
					wantRefused(t, "the last Id", b, c, reason)
				}
			}
		}
	}
	b := rowBook(impl.SdBuy, 4)
	b.Next = impl.MaxIds
	wantTaken(t, "others need no Id", b, cancelCmd(1))
	wantTaken(t, "others need no Id", b, reduceCmd(1, 1))
	wantTaken(t, "others need no Id", b, impl.Cmd{Kind: impl.CmDayEnd})
}

// mirrorTicks lays prices out the other way round.
func mirrorTicks(ticks int) int { return impl.MaxTicks + 1 - ticks }

func mirrorSide(side int) int {
	return map[int]int{impl.SdBuy: impl.SdSell, impl.SdSell: impl.SdBuy}[side]
}

func mirrorBook(b impl.Book) impl.Book {
	b = cloneBook(b)
	for i := range b.Orders {
		b.Orders[i].Side = mirrorSide(b.Orders[i].Side)
		b.Orders[i].Ticks = mirrorTicks(b.Orders[i].Ticks)
	}
	return b
}

func mirrorCmd(c impl.Cmd) impl.Cmd {
	if c.Side == impl.SdBuy || c.Side == impl.SdSell {
		c.Side = mirrorSide(c.Side)
	}
	if ticks, ok := wantTicks(c.Price); ok {
		c.Price = float64(mirrorTicks(ticks)) / 4
	}
	return c
}

func mirrorGroup(group []impl.Event) []impl.Event {
	out := slices.Clone(group)
	for i := range out {
		out[i].Cmd = mirrorCmd(out[i].Cmd)
		if out[i].Kind == impl.EvTrade {
			out[i].Price = mirrorTicks(out[i].Price)
		}
	}
	return out
}

// roomCase is an order at a book that is full, with what becomes of it.
type roomCase struct {
	name   string
	book   impl.Book
	c      impl.Cmd
	reason int
}

// roomCases have the new order buy; they are mirrored for the other side.
func roomCases() []roomCase {
	alike := func(n, left int) impl.Book {
		b := rowBook(impl.SdSell, slices.Repeat([]int{400}, n)...)
		for i := range b.Orders {
			b.Orders[i].Left = left
		}
		return b
	}
	levels := rowBook(impl.SdSell, 400, 401, 402, 403, 404, 405, 406, 407)
	mixed := behind(rowBook(impl.SdBuy, 300, 301, 302, 303), rowBook(impl.SdSell, 400, 401, 402, 403))
	limit, post, ioc, fok := impl.TyLimit, impl.TyPost, impl.TyIoc, impl.TyFok
	full := fullBook()
	return []roomCase{
		{"it rests as the last order", alike(19, 2), newCmd(1, limit, 1, 396), 0},
		{"it rests as one too many", alike(20, 2), newCmd(1, limit, 1, 396), impl.RfFull},
		{"it posts as one too many", alike(20, 2), newCmd(1, post, 1, 396), impl.RfFull},
		{"nothing is left of it", alike(20, 2), newCmd(1, limit, 1, 400), 0},
		{"nothing is left of it or the front", alike(20, 2), newCmd(1, limit, 2, 400), 0},
		{"it trades one away and rests", alike(20, 2), newCmd(1, limit, 3, 400), 0},
		{"it trades all away and rests", alike(20, 2), newCmd(1, limit, 41, 400), 0},
		{"it trades all away", alike(20, 2), newCmd(1, limit, 40, 400), 0},
		{"what is left is dropped", alike(20, 2), newCmd(1, ioc, 1, 396), 0},
		{"what is left of it at the market is dropped", alike(20, 2), newCmd(1, impl.TyMarket, 50, 0), 0},
		{"it is killed", alike(20, 2), newCmd(1, fok, 1, 396), impl.RfFill},
		{"it would trade", alike(20, 2), newCmd(1, post, 1, 400), impl.RfPost},
		{"it makes a ninth level", levels, newCmd(1, limit, 1, 396), impl.RfFull},
		{"it posts a ninth level", levels, newCmd(1, post, 1, 399), impl.RfFull},
		{"it trades a level away and makes one", levels, newCmd(1, limit, 101, 400), 0},
		{"it trades a level away", levels, newCmd(1, limit, 100, 400), 0},
		{"it trades a part of a level", levels, newCmd(1, limit, 99, 400), 0},
		{"it drops at eight levels", levels, newCmd(1, ioc, 1, 396), 0},
		{"a ninth level at its own side", mixed, newCmd(1, limit, 1, 304), impl.RfFull},
		{"a ninth level behind its side", mixed, newCmd(1, limit, 1, 1), impl.RfFull},
		{"a ninth level between", mixed, newCmd(1, post, 1, 399), impl.RfFull},
		{"it joins the front level", mixed, newCmd(1, limit, 1, 303), 0},
		{"it joins the last level", mixed, newCmd(1, post, 1, 300), 0},
		{"it trades one level away and makes one", mixed, newCmd(1, limit, 101, 400), 0},
		{"it trades two away and makes one", mixed, newCmd(1, limit, 202, 401), 0},
		{"it trades all of a side away", mixed, newCmd(1, limit, 407, 500), 0},
		{"it joins a level as one too many", full, newCmd(1, limit, 1, 10), impl.RfFull},
		{"it makes a level as one too many", full, newCmd(1, limit, 1, 11), impl.RfFull},
		{"it trades one away", full, newCmd(1, limit, 3, 20), 0},
		{"it trades a level away and makes one", full, newCmd(1, limit, 31, 20), 0},
		{"it trades a level away", full, newCmd(1, limit, 30, 20), 0},
		{"two of a level are left", behind(alike(2, 2), rowBook(1, 1, 2, 3, 4, 5, 6, 7)), newCmd(1, limit, 3, 8), impl.RfFull},
		{"a level is traded away, one order at a time", behind(alike(2, 2), rowBook(1, 1, 2, 3, 4, 5, 6, 7)), newCmd(1, limit, 5, 400), 0},
	}
}

func TestRoom(t *testing.T) {
	for _, one := range roomCases() {
		wantEither(t, one.name, one.book, one.c, one.reason)
		wantEither(t, one.name+", mirrored", mirrorBook(one.book), mirrorCmd(one.c), one.reason)
	}
}

func TestWrongBooks(t *testing.T) {
	cmds := []impl.Cmd{newCmd(1, impl.TyLimit, 1, 4), newCmd(2, impl.TyMarket, 1, 0), cancelCmd(1), reduceCmd(1, 1), {Kind: impl.CmDayEnd}, {}, {Kind: 9, Price: math.NaN()}}
	seen := 0
	for _, one := range bookCases() {
		if one.right {
			continue
		}
		seen++
		for _, c := range cmds {
			if reason, code := impl.ReasonOf(one.book, c); reason != 0 || code != impl.ErrBad {
				t.Fatalf("%s: ReasonOf = %d, %d", one.name, reason, code)
			}
			after, group, code := impl.StepBook(one.book, c)
			if code != impl.ErrBad || len(group) != 0 || !sameBook(after, impl.Book{}) {
				t.Fatalf("%s: StepBook = %s,%s, %d", one.name, showBook(after), showGroup(group), code)
			}
		}
	}
	if seen < 500 {
		t.Errorf("%d books are wrong: the test asks too little", seen)
	}
}

// pickCmd is mostly right and near the prices of pickBook; wild ones have anything.
func pickCmd(p *picker, b impl.Book) impl.Cmd {
	id := p.below(b.Next + 2)
	if len(b.Orders) > 0 && p.below(4) > 0 {
		id = b.Orders[p.below(len(b.Orders))].Id
	}
	switch p.below(12) {
	case 0:
		return cancelCmd(id)
	case 1, 2:
		return reduceCmd(id, 1+p.below(50))
	case 3:
		return impl.Cmd{Kind: impl.CmDayEnd}
	case 4:
		return wildCmd(p)
	}
	c := newCmd(1+p.below(2), allTypes[p.below(5)], 1+p.below(60), 14+p.below(24))
	if wantRests(c) {
		c.Life = p.below(2)
	}
	c.Tag = strings.Repeat("t", p.below(4))
	return c
}

// wildCmd has most of its fields right, so that any reason may be the first.
func wildCmd(p *picker) impl.Cmd {
	prices := append(edgePrices(), pricesThatAreNone()...)
	tags := []string{"\x1f", " ", "~", "\x7f", "123456789012", "1234567890123", someText(40)}
	c := newCmd(1+p.below(2), allTypes[p.below(5)], 1+p.below(60), 14+p.below(24))
	wrong := func() bool { return p.below(6) == 0 }
	if wrong() {
		c.Price = prices[p.below(len(prices))]
	}
	if wrong() {
		c.Tag = tags[p.below(len(tags))]
	}
	for _, name := range wholeFields[:6] {
		if numbers := append([]int{0, 1, 2, 3, 4, 5, 1000000, 1000001}, oddNumbers...); wrong() {
			e := impl.Event{Cmd: c}
			*field(&e, name) = numbers[p.below(len(numbers))]
			c = e.Cmd
		}
	}
	return c
}

// quietCmd is a new order that rests, mostly without a trade, so that books fill.
func quietCmd(p *picker) impl.Cmd {
	c := newCmd(impl.SdBuy, impl.TyPost, 1+p.below(9), 23-p.below(5))
	if p.below(2) == 0 {
		c.Side, c.Price = impl.SdSell, float64(24+p.below(5))/4
	}
	if p.below(3) == 0 {
		c.Type = impl.TyLimit
	}
	return c
}

// TestPromise6AnyStep asks the model about any command at any book.
func TestPromise6AnyStep(t *testing.T) {
	p := picker{51}
	reasons, kinds := map[int]int{}, map[int]int{}
	for range 30000 {
		b := pickBook(&p)
		if !wantBookOK(b) {
			continue
		}
		c := pickCmd(&p, b)
		if p.below(3) == 0 {
			c = wildCmd(&p)
		}
		_, group := checkStep(t, "any step", b, c)
		reasons[group[0].Reason]++
		for _, e := range group {
			kinds[e.Kind]++
		}
	}
	for reason := range impl.RfFull + 1 {
		if reasons[reason] < 10 {
			t.Errorf("reason %d came %d times: the test asks too little", reason, reasons[reason])
		}
	}
	for kind := 1; kind <= kindsOfEvents; kind++ {
		if kinds[kind] < 100 {
			t.Errorf("kind %d came %d times: the test asks too little", kind, kinds[kind])
		}
	}
}

// TestPromise5EachTradeIsWithTheFront does the trades one by one, and asks Front ahead of each.
func TestPromise5EachTradeIsWithTheFront(t *testing.T) {
	p := picker{52}
	trades := 0
	for range 20000 {
		b := pickBook(&p)
		c := newCmd(1+p.below(2), allTypes[p.below(5)], 1+p.below(200), 14+p.below(24))
		after, group, code := impl.StepBook(b, c)
		if code != impl.OK || group[0].Kind == impl.EvRefuse {
			continue
		}
		now, left := cloneBook(b), c.Qty
		for _, e := range group[1:] {
			if e.Kind != impl.EvTrade {
				continue
			}
			trades++
			front, code := impl.Front(now, 3-c.Side)
			if code != impl.OK || !wantMeets(c, front) {
				t.Fatalf("%s trades where none meets it:%s", showCmd(c), showGroup(group))
			}
			if e.Id != b.Next || e.Other != front.Id || e.Price != front.Ticks || e.Qty != min(left, front.Left) {
				t.Fatalf("%s trades%s where the front is %v, of %s", showCmd(c), showGroup(group), front, showBook(b))
			}
			left -= e.Qty
			at := slices.Index(now.Orders, front)
			now.Orders[at].Left -= e.Qty
			if now.Orders[at].Left == 0 {
				now.Orders = slices.Delete(now.Orders, at, at+1)
			}
		}
		front, code := impl.Front(now, 3-c.Side)
		if left > 0 && code == impl.OK && wantMeets(c, front) {
			t.Fatalf("%s stops at%s where %v still meets it", showCmd(c), showGroup(group), front)
		}
		for i, o := range now.Orders {
			if o != after.Orders[i] {
				t.Fatalf("%s leaves %s, not %s", showCmd(c), showBook(after), showBook(now))
			}
		}
	}
	if trades < 10000 {
		t.Errorf("%d trades: the test asks too little", trades)
	}
}

func TestPromise5Mirror(t *testing.T) {
	p := picker{53}
	for range 15000 {
		b := pickBook(&p)
		if !wantBookOK(b) {
			continue
		}
		c := pickCmd(&p, b)
		after, group, code := impl.StepBook(b, c)
		mirrored, other, otherCode := impl.StepBook(mirrorBook(b), mirrorCmd(c))
		if code != impl.OK || otherCode != impl.OK || !sameBook(mirrored, mirrorBook(after)) || !sameEvents(other, mirrorGroup(group)) {
			t.Fatalf("%s at %s makes%s; in the mirror it makes%s", showCmd(c), showBook(b), showGroup(group), showGroup(other))
		}
	}
}

// TestPromise5EldestOfTheBestPrice lets prices come in all orders, and takes a unit at a time.
func TestPromise5EldestOfTheBestPrice(t *testing.T) {
	for _, side := range bothSides {
		orderings([]int{3, 4, 4, 5, 5}, 0, func(ticks []int) {
			b := rowBook(side, ticks...)
			for i := range b.Orders {
				b.Orders[i].Left = 1
			}
			for _, want := range wantQueue(b, side) {
				var group []impl.Event
				b, group = wantTaken(t, "a unit", b, newCmd(3-side, impl.TyMarket, 1, 0))
				if len(group) != 2 || group[1].Other != want.Id || group[1].Price != want.Ticks {
					t.Fatalf("a unit trades as%s, not with %v", showGroup(group), want)
				}
			}
		})
	}
}

// TestPromise6EachType asks what each type may do, of any order that is taken.
func TestPromise6EachType(t *testing.T) {
	p := picker{54}
	taken := map[int]int{}
	for range 20000 {
		b := pickBook(&p)
		c := newCmd(1+p.below(2), allTypes[p.below(5)], 1+p.below(60), 14+p.below(24))
		after, group, code := impl.StepBook(b, c)
		if code != impl.OK || group[0].Kind == impl.EvRefuse {
			continue
		}
		taken[c.Type]++
		count, traded := map[int]int{}, 0
		for _, e := range group {
			count[e.Kind]++
			if e.Kind == impl.EvTrade {
				traded += e.Qty
			}
		}
		rests, drops := count[impl.EvRest] > 0, count[impl.EvDrop] > 0
		_, stands := orderOf(after, b.Next)
		may := map[int]bool{
			impl.TyLimit:  !drops && rests == (traded < c.Qty),
			impl.TyMarket: !rests && drops == (traded < c.Qty),
			impl.TyIoc:    !rests && drops == (traded < c.Qty),
			impl.TyFok:    !rests && !drops && traded == c.Qty,
			impl.TyPost:   !drops && rests && traded == 0,
		}
		if !may[c.Type] || stands != rests {
			t.Fatalf("%s at %s makes%s and %s", showCmd(c), showBook(b), showGroup(group), showBook(after))
		}
	}
	for _, orderType := range allTypes {
		if taken[orderType] < 500 {
			t.Errorf("type %d was taken %d times: the test asks too little", orderType, taken[orderType])
		}
	}
}

// TestPromise6ABookStaysRight walks long ways, far beyond what a script may have.
func TestPromise6ABookStaysRight(t *testing.T) {
	p := picker{55}
	full, levels := 0, 0
	for walk := range 40 {
		b := impl.Book{Next: 1}
		if p.below(4) == 0 {
			b.Next = impl.MaxIds - 300
		}
		for range 600 {
			c := pickCmd(&p, b)
			if p.below(2+walk%4) > 0 {
				c = quietCmd(&p)
			}
			b, _ = checkStep(t, "a long way", b, c)
			full += len(b.Orders) / impl.MaxOrders
			levels += len(wantLevels(b)) / impl.MaxLevels
		}
	}
	if full < 20 || levels < 20 {
		t.Errorf("books were full %d times, of levels %d times: the test asks too little", full, levels)
	}
}

func TestPromise7DaysEnd(t *testing.T) {
	end := impl.Cmd{Kind: impl.CmDayEnd}
	p := picker{56}
	books := []impl.Book{{Next: 1}, {Next: impl.MaxIds}, ordinaryBook(), fullBook()}
	for range 2000 {
		books = append(books, pickBook(&p))
	}
	for _, b := range books {
		if !wantBookOK(b) {
			continue
		}
		for _, lives := range []string{"as they are", "all stay", "all of the day"} {
			b := cloneBook(b)
			for i := range b.Orders {
				switch lives {
				case "all stay":
					b.Orders[i].Life = impl.LfStay
				case "all of the day":
					b.Orders[i].Life = impl.LfDay
				}
			}
			want, expires := impl.Book{Next: b.Next}, []impl.Event(nil)
			for _, o := range b.Orders {
				if o.Life == impl.LfStay {
					want.Orders = append(want.Orders, o)
					continue
				}
				expires = append(expires, impl.Event{Kind: impl.EvExpire, Id: o.Id, Qty: o.Left})
			}
			after, group := wantTaken(t, lives, b, end)
			if !sameBook(after, want) || !sameEvents(group, append([]impl.Event{{Kind: impl.EvDayEnd, Qty: len(expires)}}, expires...)) {
				t.Fatalf("%s: a day ends with%s and %s, of %s", lives, showGroup(group), showBook(after), showBook(b))
			}
			again, group := wantTaken(t, "the next day", after, end)
			if !sameBook(again, after) || !sameEvents(group, []impl.Event{{Kind: impl.EvDayEnd}}) {
				t.Fatalf("the next day ends with%s and %s", showGroup(group), showBook(again))
			}
		}
	}
}

// TestPromise7NothingElseEndsADay asks that orders of a day live through all other commands.
func TestPromise7NothingElseEndsADay(t *testing.T) {
	b := impl.Book{Next: 1}
	c := newCmd(impl.SdBuy, impl.TyLimit, 5, 8)
	c.Life = impl.LfDay
	b, _ = wantTaken(t, "of the day", b, c)
	for _, c := range []impl.Cmd{newCmd(1, impl.TyLimit, 1, 7), newCmd(2, impl.TyIoc, 1, 8), newCmd(2, impl.TyPost, 1, 20), cancelCmd(2), reduceCmd(1, 3), newCmd(2, impl.TyMarket, 1, 0)} {
		b, _ = wantTaken(t, "no day's end", b, c)
	}
	wantRefused(t, "a day's end with more", b, impl.Cmd{Kind: impl.CmDayEnd, Qty: 1}, impl.RfForm)
	if o, ok := orderOf(b, 1); !ok || o.Left != 2 || o.Life != impl.LfDay {
		t.Fatal("the order of the day is", o, fmt.Sprint(ok))
	}
	if b, _ = wantTaken(t, "a day's end", b, impl.Cmd{Kind: impl.CmDayEnd}); len(b.Orders) != 1 || b.Orders[0].Id != 4 {
		t.Error("behind the day:", showBook(b))
	}
}
