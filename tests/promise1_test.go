package tests

import (
	"bytes"
	"fmt"
	"math"
	"strings"
	"sync"
	"testing"

	"loop.example/g00092/impl"
)

// ask is one call, with what it answers as a text: alike answers are alike texts.
type ask struct {
	name string
	call func() string
}

func floatText(x float64) string {
	if math.IsNaN(x) {
		return "NaN"
	}
	return fmt.Sprintf("%016x", math.Float64bits(x))
}

func cmdText(c impl.Cmd) string {
	price := floatText(c.Price)
	c.Price = 0
	return fmt.Sprintf("%+v %s", c, price)
}

func eventText(e impl.Event) string {
	cmd := cmdText(e.Cmd)
	e.Cmd = impl.Cmd{}
	return fmt.Sprintf("%+v %s", e, cmd)
}

// listText is nothing for an empty list, as for none.
func listText[T any](list []T, text func(T) string) string {
	var out strings.Builder
	for _, one := range list {
		out.WriteString(text(one) + ";")
	}
	return out.String()
}

// bytesAsks are the calls of chapters 1 to 3 on bytes, most of them with a place.
func bytesAsks(b []byte, at int) []ask {
	return []ask{
		{"GetNumber", func() string { return fmt.Sprintln(impl.GetNumber(b, at)) }},
		{"GetFloat", func() string {
			x, next, code := impl.GetFloat(b, at)
			return fmt.Sprintln(floatText(x), next, code)
		}},
		{"GetText", func() string {
			s, next, code := impl.GetText(b, at)
			return fmt.Sprintf("%q %d %d", s, next, code)
		}},
		{"SumOf", func() string { return fmt.Sprintln(impl.SumOf(b, at)) }},
		{"DecodeEvent", func() string {
			e, next, code := impl.DecodeEvent(b, at)
			return fmt.Sprintln(eventText(e), next, code)
		}},
		{"DecodeEvents", func() string {
			list, code, place := impl.DecodeEvents(b)
			return fmt.Sprintln(listText(list, eventText), code, place)
		}},
	}
}

// eventAsks are the calls of chapter 3 on events.
func eventAsks(e impl.Event) []ask {
	return []ask{
		{"EventOK", func() string { return fmt.Sprintln(impl.EventOK(e)) }},
		{"EncodeEvent", func() string { return fmt.Sprintln(impl.EncodeEvent(e)) }},
	}
}

// cmdsAsks are the calls on lists of commands.
func cmdsAsks(list []impl.Cmd) []ask {
	return []ask{
		{"Normal", func() string {
			got, code := impl.Normal(list)
			return fmt.Sprintln(listText(got, cmdText), code)
		}},
		{"RunScript", func() string {
			log, code := impl.RunScript(list)
			return fmt.Sprintln(logText(log), code)
		}},
		{"TapeOf", func() string { return fmt.Sprintln(impl.TapeOf(list)) }},
	}
}

// someCmds are raw commands with all kinds of Tags and Prices, none at all and too many among the lists.
func someCmds() [][]impl.Cmd {
	tags, prices := append(edgeTags(), longTags()...), edgePrices()
	var mixed []impl.Cmd
	for i := range 40 {
		mixed = append(mixed, impl.Cmd{Kind: i % 6, Side: i % 3, Type: i % 7, Life: i % 2, Qty: 3 * i, Id: i - 5, Price: prices[i%len(prices)], Tag: tags[i%len(tags)]})
	}
	p := picker{71}
	return [][]impl.Cmd{nil, {}, {{}}, mixed[:1], mixed, toldScript(), pickScript(&p, 60), pickScript(&p, impl.MaxCmds), make([]impl.Cmd, impl.MaxList), make([]impl.Cmd, impl.MaxList+1)}
}

func orderText(o impl.Order) string { return fmt.Sprintf("%+v", o) }

func bookText(b impl.Book) string {
	return fmt.Sprintln(b.Next, listText(b.Orders, orderText))
}

// bookAsks are the calls of chapter 4.
func bookAsks(b impl.Book, side int) []ask {
	return []ask{
		{"BookOK", func() string { return fmt.Sprintln(impl.BookOK(b)) }},
		{"Front", func() string { return fmt.Sprintln(impl.Front(b, side)) }},
		{"Queue", func() string {
			list, code := impl.Queue(b, side)
			return fmt.Sprintln(listText(list, orderText), code)
		}},
		{"Levels", func() string {
			list, code := impl.Levels(b)
			return fmt.Sprintln(listText(list, func(l impl.Level) string { return fmt.Sprintf("%+v", l) }), code)
		}},
	}
}

// someBooks are right and wrong ones, with both sides, one, and none.
func someBooks() []impl.Book {
	out := []impl.Book{{}, {Next: 1}, ordinaryBook(), fullBook(), behind(fullBook(), fullBook())}
	p := picker{44}
	for range 40 {
		b := pickBook(&p)
		out = append(out, b, spoilBook(&p, b))
	}
	return out
}

func valueAsks() []ask {
	var out []ask
	for _, n := range edgeNumbers() {
		out = append(out,
			ask{"PutNumber", func() string { return fmt.Sprintln(impl.PutNumber(n)) }},
			ask{"CodeWord", func() string { return fmt.Sprintf("%q", impl.CodeWord(n)) }})
	}
	for _, x := range append(edgeFloats(), math.NaN(), 0.5, 250000.25) {
		out = append(out,
			ask{"PutFloat", func() string { return fmt.Sprintln(impl.PutFloat(x)) }},
			ask{"Ticks", func() string { return fmt.Sprintln(impl.Ticks(x)) }})
	}
	for _, s := range append([]string{"", "a", "9", "\x00", someText(12), someText(13), someText(14), someText(impl.MaxText), someText(impl.MaxText + 1)}, words...) {
		out = append(out,
			ask{"PutText", func() string { return fmt.Sprintln(impl.PutText(s)) }},
			ask{"NameOK", func() string { return fmt.Sprintln(impl.NameOK(s)) }},
			ask{"CodeOf", func() string { return fmt.Sprintln(impl.CodeOf(s)) }})
	}
	return out
}

func someAsks() []ask {
	out := valueAsks()
	p := picker{6}
	for n := range 24 {
		b := p.bytes(n)
		for at := -2; at <= n+2; at++ {
			out = append(out, bytesAsks(b, at)...)
		}
		out = append(out, bytesAsks(b, leastInt)...)
		out = append(out, bytesAsks(b, greatestInt)...)
	}
	right, wrong := rightEvents(), wrongEvents()
	for i := 0; i < len(right); i += 5 {
		out = append(out, eventAsks(right[i])...)
		out = append(out, bytesAsks(wantBytes(right[i]), i%3)...)
	}
	for i := 0; i < len(wrong); i += 11 {
		out = append(out, eventAsks(wrong[i])...)
	}
	for _, list := range someCmds() {
		out = append(out, cmdsAsks(list)...)
	}
	for i, b := range someBooks() {
		out = append(out, bookAsks(b, anySides[i%3])...)
		for _, c := range someStepCmds(i) {
			out = append(out, stepAsks(b, c)...)
		}
	}
	for _, groups := range someGroups() {
		out = append(out, groupsAsks(groups)...)
	}
	for _, one := range ruleSamples() {
		out = append(out, ruleAsks(one.book, one.events, one.e)...)
	}
	for _, tape := range someTapes() {
		out = append(out, tapeAsks(tape)...)
	}
	for _, one := range frameSamples() {
		out = append(out, frameAsks(one.group, one.totals, one.sum)...)
	}
	for i, b := range someBooks() {
		for k, totals := range someTotals() {
			if i%3 == k%3 {
				out = append(out, figuresAsks(totals, b)...)
			}
		}
	}
	for _, list := range someFloats() {
		out = append(out, floatsAsks(list)...)
	}
	for _, text := range someTexts() {
		out = append(out, textAsks(text)...)
	}
	for _, e := range someSayings() {
		out = append(out, sayingAsks(e)...)
	}
	return append(out, bytesAsks(make([]byte, impl.MaxText+1), 0)...)
}

func TestPromise1AlikeAnswers(t *testing.T) {
	asks := someAsks()
	first := make([]string, len(asks))
	for i, a := range asks {
		first[i] = a.call()
	}
	// In other orders, so that each call stands behind other ones.
	for i := len(asks) - 1; i >= 0; i-- {
		if got := asks[i].call(); got != first[i] {
			t.Errorf("%s answered %q, then %q", asks[i].name, first[i], got)
		}
	}
	p := picker{7}
	for range 2 * len(asks) {
		i := p.below(len(asks))
		if got := asks[i].call(); got != first[i] {
			t.Errorf("%s answered %q, then %q", asks[i].name, first[i], got)
		}
	}
}

func TestPromise1CallsSideBySide(t *testing.T) {
	asks := someAsks()
	first := make([]string, len(asks))
	for i, a := range asks {
		first[i] = a.call()
	}
	var done sync.WaitGroup
	for worker := range 8 {
		done.Go(func() {
			for k := range asks {
				i := (k + worker*len(asks)/8) % len(asks)
				if got := asks[i].call(); got != first[i] {
					t.Errorf("%s answered %q, then %q beside others", asks[i].name, first[i], got)
				}
			}
		})
	}
	done.Wait()
}

func TestPromise1ArgumentsStay(t *testing.T) {
	samples := [][]byte{nil, {0}, {128}, {128, 0}, {255, 255, 255, 255, 255, 255, 255, 255, 255, 2}, make([]byte, impl.MaxText), make([]byte, impl.MaxText+1)}
	for _, n := range edgeNumbers() {
		samples = append(samples, impl.PutNumber(n))
	}
	for _, x := range edgeFloats() {
		samples = append(samples, impl.PutFloat(x))
	}
	for n := range 20 {
		samples = append(samples, impl.PutText(someText(n)))
	}
	var tape []byte
	for i, e := range rightEvents() {
		if i%7 == 0 {
			samples = append(samples, wantBytes(e))
			tape = append(tape, wantBytes(e)...)
		}
	}
	samples = append(samples, tape, bytes.Repeat([]byte{8, 4}, impl.MaxList+1))
	for _, b := range samples {
		g := guard(b)
		for _, at := range []int{-1, 0, 1, 2, len(b) - 1, len(b), len(b) + 1} {
			for _, a := range bytesAsks(g.part, at) {
				a.call()
				g.check(t, a.name)
			}
		}
	}
}

// TestPromise1ListsStay lays lists into the middle of greater ones, where whatever is written around them shows too.
func TestPromise1ListsStay(t *testing.T) {
	for _, list := range someCmds() {
		edge := impl.Cmd{Kind: -7, Tag: "an edge that is longer than a Tag"}
		whole := append(append([]impl.Cmd{edge, edge}, list...), edge, edge)
		was := listText(whole, cmdText)
		for _, a := range cmdsAsks(whole[2 : 2+len(list)]) {
			a.call()
			if listText(whole, cmdText) != was {
				t.Errorf("%s wrote into its list of %d or around it", a.name, len(list))
			}
		}
	}
}

// TestPromise1BooksStay lays the orders of books into the middle of greater lists.
func TestPromise1BooksStay(t *testing.T) {
	for _, b := range someBooks() {
		edge := impl.Order{Id: -7, Tag: "an edge that is longer than a Tag"}
		whole := append(append([]impl.Order{edge, edge}, b.Orders...), edge, edge)
		was := listText(whole, orderText)
		b.Orders = whole[2 : 2+len(b.Orders)]
		for _, side := range anySides {
			for _, a := range bookAsks(b, side) {
				a.call()
				if listText(whole, orderText) != was {
					t.Fatalf("%s wrote into the orders of a book or around them", a.name)
				}
			}
		}
	}
}

// TestPromise1NewQueues spoils what was answered, and what was given, and asks whether it shows in the other.
func TestPromise1NewQueues(t *testing.T) {
	for _, b := range someBooks() {
		for _, side := range anySides {
			given := impl.Book{Next: b.Next, Orders: append(make([]impl.Order, 0, len(b.Orders)+3), b.Orders...)}
			one, _ := impl.Queue(given, side)
			two, _ := impl.Queue(given, side)
			ones, _ := impl.Levels(given)
			twos, _ := impl.Levels(given)
			want := listText(two, orderText) + fmt.Sprint(twos)
			fill(one, impl.Order{Id: -9, Tag: "spoiled"})
			fill(ones, impl.Level{Side: -9})
			if bookText(given) != bookText(b) {
				t.Fatalf("a book shares memory with an answer: %s", showBook(b))
			}
			fill(given.Orders, impl.Order{Id: -8, Tag: "spoiled"})
			if listText(two, orderText)+fmt.Sprint(twos) != want {
				t.Fatalf("an answer shares memory with its book or with another answer: %s", showBook(b))
			}
		}
	}
}

// fill writes over all of a list's memory, behind its end too.
func fill[T any](list []T, with T) {
	whole := list[:cap(list)]
	for i := range whole {
		whole[i] = with
	}
}

// TestPromise1NewLists spoils what was answered, and what was given, and asks whether it shows in the other.
func TestPromise1NewLists(t *testing.T) {
	spoilCmds := func(list []impl.Cmd) { fill(list, impl.Cmd{Kind: -9, Tag: "spoiled"}) }
	for _, list := range someCmds() {
		given := append(make([]impl.Cmd, 0, len(list)+3), list...)
		got, _ := impl.Normal(given)
		was := listText(got, cmdText)
		spoilCmds(given)
		if listText(got, cmdText) != was {
			t.Error("Normal's answer shares memory with its list")
		}
		given = append(given[:0], list...)
		want := listText(given[:cap(given)], cmdText)
		again, _ := impl.Normal(given)
		spoilCmds(got)
		spoilCmds(again)
		if listText(given[:cap(given)], cmdText) != want {
			t.Error("Normal's list shares memory with its answer")
		}
		if third, _ := impl.Normal(given); listText(third, cmdText) != was {
			t.Error("Normal keeps the memory of its answers")
		}
	}
	b := wantBytes(fullEvent(impl.EvAccept))
	e, _, _ := impl.DecodeEvent(b, 0)
	one, _, _ := impl.DecodeEvents(b)
	two, _, _ := impl.DecodeEvents(b)
	clear(b)
	one[0] = impl.Event{}
	if want := fullEvent(impl.EvAccept); e != want || two[0] != want {
		t.Errorf("what was read became %+v and %+v with the bytes that it was read from", e, two[0])
	}
}

// TestPromise1NewMemory spoils what was answered and what was given, and asks whether it shows.
func TestPromise1NewMemory(t *testing.T) {
	var puts []ask
	spoil := func(b []byte) string {
		was := string(b)
		whole := b[:cap(b)]
		for i := range whole {
			whole[i] ^= 0xFF
		}
		return was
	}
	for _, n := range []int{0, 5, -5, 64, leastInt, greatestInt} {
		puts = append(puts, ask{"PutNumber", func() string { return spoil(impl.PutNumber(n)) }})
	}
	for _, x := range []float64{0, math.Copysign(0, -1), 1.5, math.NaN(), math.Inf(1)} {
		puts = append(puts, ask{"PutFloat", func() string { return spoil(impl.PutFloat(x)) }})
	}
	for _, s := range []string{"", "abc", someText(12), someText(13), strings.Repeat("x", impl.MaxText)} {
		puts = append(puts, ask{"PutText", func() string { return spoil(impl.PutText(s)) }})
	}
	for kind := 1; kind <= kindsOfEvents; kind++ {
		puts = append(puts, ask{"EncodeEvent", func() string {
			b, _ := impl.EncodeEvent(fullEvent(kind))
			return spoil(b)
		}})
	}
	for _, p := range puts {
		if one, two := p.call(), p.call(); one != two {
			t.Errorf("%s answered %q, then %q: it keeps the memory of its answers", p.name, one, two)
		}
	}
	held, again := impl.PutText("held"), impl.PutText("held")
	held[1] = 'X'
	if string(again) != "\x08held" {
		t.Error("two answers share memory")
	}
	b := []byte("\x06abc")
	s, _, _ := impl.GetText(b, 0)
	copy(b, bytes.Repeat([]byte{0}, len(b)))
	if s != "abc" {
		t.Errorf("a text that was read became %q with the bytes that it was read from", s)
	}
}

func TestPromise1WhateverIsGiven(t *testing.T) {
	p := picker{8}
	for range 30000 {
		b := p.bytes(p.below(30))
		at := p.below(len(b)+7) - 3
		got, zero := readings(b, at)
		for i, r := range got {
			inside := at >= 0 && at <= len(b)
			switch {
			case r.code == impl.OK && inside && r.next > at && r.next <= len(b):
			case r.code == impl.ErrForm && inside && r.next == 0:
			case r.code == impl.ErrRange && !inside && r.next == 0 && zero:
			default:
				t.Fatalf("reading %d of %v at %d: %v", i, b, at, r)
			}
		}
		checkWhateverEvent(t, b, at)
		impl.SumOf(b, int(p.next()))
		impl.Ticks(math.Float64frombits(p.next()))
		impl.CodeWord(int(p.next()))
		impl.CodeOf(string(b))
		impl.NameOK(string(b))
	}
}

// anyOrder has any numbers at all.
func anyOrder(p *picker) impl.Order {
	n := func() int { return int(p.next()) >> p.below(64) }
	return impl.Order{Id: n(), Side: n(), Ticks: n(), Left: n(), Life: n(), Tag: string(p.bytes(p.below(16)))}
}

func TestPromise1WhateverBook(t *testing.T) {
	p := picker{45}
	for range 20000 {
		b := impl.Book{Next: int(p.next()) >> p.below(64)}
		for range p.below(30) {
			b.Orders = append(b.Orders, anyOrder(&p))
		}
		checkBook(t, "whatever book", b, wantBookOK(b))
	}
}

// checkWhateverEvent asks that an answer on any bytes is one of those that the document knows.
func checkWhateverEvent(t *testing.T, b []byte, at int) {
	t.Helper()
	e, next, code := impl.DecodeEvent(b, at)
	inside := at >= 0 && at <= len(b)
	zero := next == 0 && sameEvent(e, impl.Event{})
	switch {
	case code == impl.OK && inside && next > at && next <= len(b) && impl.EventOK(e):
	case code == impl.ErrForm && inside && zero:
	case code == impl.ErrRange && !inside && zero:
	default:
		t.Fatalf("DecodeEvent(%v, %d) = %+v, %d, %d", b, at, e, next, code)
	}
	list, code, place := impl.DecodeEvents(b)
	switch {
	case code == impl.OK && place == 0 && len(list) <= len(b)/2:
	case code == impl.ErrForm && place >= 0 && place < len(b) && len(list) == 0:
	default:
		t.Fatalf("DecodeEvents(%v) = %+v, %d, %d", b, list, code, place)
	}
}
