package tests

import (
	"fmt"
	"maps"
	"slices"
	"strings"
	"testing"

	"loop.example/g00092/impl"
)

// A ledger is kept by what a desk is told and says alone, line by line; it
// knows promises 5, 6 and 7, and nothing of the engine.

type ledgerOrder struct {
	side, ticks, left int
	day               bool
}

type ledger struct {
	t      *testing.T
	last   int
	orders map[int]ledgerOrder
	seen   map[string]int
}

// numbersIn are the numbers of a line that a desk says, behind its word.
func numbersIn(line string) (string, []int) {
	words := strings.Split(line, " ")
	var out []int
	for _, word := range words[1:] {
		out = append(out, mustNumber(word))
	}
	return words[0], out
}

func ticksIn(price string) int {
	if price == "-" {
		return 0
	}
	return mustNumber(strings.TrimLeft(strings.Replace(price, ".", "", 1), "0")) / 25
}

// best is the Id of the order of a side that is due to trade, 0 if there is none.
func (l *ledger) best(side int) int {
	best := 0
	for id, o := range l.orders {
		was := l.orders[best]
		better := side == impl.SdBuy && o.ticks > was.ticks || side == impl.SdSell && o.ticks < was.ticks
		if o.side == side && (best == 0 || better || o.ticks == was.ticks && id < best) {
			best = id
		}
	}
	return best
}

// meets says whether an order would trade with the best of the other side.
func (l *ledger) meets(taker ledgerOrder, market bool) bool {
	best := l.best(3 - taker.side)
	ticks := l.orders[best].ticks
	return best != 0 && (market || taker.side == impl.SdBuy && ticks <= taker.ticks || taker.side == impl.SdSell && ticks >= taker.ticks)
}

func (l *ledger) fail(line string, said []string) {
	l.t.Helper()
	l.t.Fatalf("the line %q says %q, where the orders are %v", line, said, l.orders)
}

// do takes a command's line and what the desk says to it.
func (l *ledger) do(line string, said []string) {
	l.t.Helper()
	asked := strings.Fields(line)
	for _, one := range said {
		l.seen[strings.Fields(one)[0]]++
	}
	if strings.HasPrefix(said[0], "refuse ") {
		if len(said) != 1 {
			l.fail(line, said)
		}
		return
	}
	switch asked[0] {
	case "buy", "sell":
		l.take(line, asked, said)
	case "end":
		l.endDay(line, said)
	default:
		l.change(line, asked, said)
	}
}

// take has an order trade with the best of the other side as long as it meets one.
func (l *ledger) take(line string, asked, said []string) {
	l.t.Helper()
	l.last++
	taker := ledgerOrder{side: 1 + slices.Index([]string{"buy", "sell"}, asked[0]), left: mustNumber(asked[2]), ticks: ticksIn(asked[3]), day: len(asked) > 4 && asked[4] == "day"}
	kind, rest := asked[1], said[1:]
	if said[0] != fmt.Sprint("accept ", l.last) || kind == "post" && l.meets(taker, false) {
		l.fail(line, said)
	}
	for taker.left > 0 && l.meets(taker, kind == "market") {
		id := l.best(3 - taker.side)
		maker := l.orders[id]
		qty := min(taker.left, maker.left)
		if len(rest) == 0 || rest[0] != fmt.Sprintf("trade %d %d %d %d", l.last, id, qty, maker.ticks) {
			l.fail(line, said)
		}
		rest = rest[1:]
		taker.left -= qty
		maker.left -= qty
		l.orders[id] = maker
		if maker.left == 0 {
			delete(l.orders, id)
		}
	}
	want := []string{}
	switch {
	case taker.left == 0:
	case kind == "limit" || kind == "post":
		want = []string{fmt.Sprintf("rest %d %d", l.last, taker.left)}
		l.orders[l.last] = taker
	case kind == "fok":
		l.fail(line, said)
	default:
		want = []string{fmt.Sprintf("drop %d %d", l.last, taker.left)}
	}
	if !slices.Equal(rest, want) {
		l.fail(line, said)
	}
}

// change cancels or reduces an order.
func (l *ledger) change(line string, asked, said []string) {
	l.t.Helper()
	id := mustNumber(asked[1])
	o, ok := l.orders[id]
	want := fmt.Sprintf("cancel %d %d", id, o.left)
	delete(l.orders, id)
	if asked[0] == "reduce" {
		qty := mustNumber(asked[2])
		want = fmt.Sprintf("reduce %d %d", id, qty)
		ok = ok && qty > 0 && qty < o.left
		o.left = qty
		l.orders[id] = o
	}
	if !ok || len(said) != 1 || said[0] != want {
		l.fail(line, said)
	}
}

// endDay takes the orders of the day in the order of their Ids, and no others.
func (l *ledger) endDay(line string, said []string) {
	l.t.Helper()
	want := []string{""}
	for _, id := range slices.Sorted(maps.Keys(l.orders)) {
		if o := l.orders[id]; o.day {
			want = append(want, fmt.Sprintf("expire %d %d", id, o.left))
			delete(l.orders, id)
		}
	}
	want[0] = fmt.Sprint("end ", len(want)-1)
	if !slices.Equal(said, want) {
		l.fail(line, said)
	}
}

// check asks that the book is right, and that its levels have what the orders have left.
func (l *ledger) check(book []string) {
	l.t.Helper()
	left := map[string][2]int{}
	for _, o := range l.orders {
		level := fmt.Sprintf("%s %d", []string{"", "buy", "sell"}[o.side], o.ticks)
		sum := left[level]
		left[level] = [2]int{sum[0] + o.left, sum[1] + 1}
	}
	if len(l.orders) > 20 || len(left) > 8 || len(book) != len(left) {
		l.fail("book", book)
	}
	lastSide, lastTicks := "buy", 1<<40
	for _, line := range book {
		side, n := numbersIn(line)
		level := fmt.Sprintf("%s %d", side, n[0])
		inTurn := side == lastSide && (side == "buy") == (n[0] < lastTicks) || side == "sell" && lastSide == "buy" && n[0] > l.orders[l.best(impl.SdBuy)].ticks
		if left[level] != [2]int{n[1], n[2]} || n[1] == 0 || !inTurn {
			l.fail("book", book)
		}
		lastSide, lastTicks = side, n[0]
	}
}

// TestPromises5To7ByTheLedger keeps a ledger of whole scripts that a desk reads.
func TestPromises5To7ByTheLedger(t *testing.T) {
	p := picker{150}
	seen := map[string]int{}
	for range 80 {
		l := ledger{t: t, orders: map[int]ledgerOrder{}, seen: seen}
		lines := scriptLines(pickScript(&p, p.below(101)))
		var with []string
		before := ""
		for _, line := range lines {
			with = append(with, line)
			said, _ := impl.Desk(textOfLines(with))
			l.do(line, wantLines(strings.TrimPrefix(said, before)))
			withBook, code := impl.Desk(textOfLines(append(slices.Clone(with), "book")))
			if code != impl.OK {
				t.Fatalf("Desk = %d, of %d lines", code, len(with)+1)
			}
			l.check(wantLines(strings.TrimPrefix(withBook, said)))
			before = said
		}
	}
	for _, word := range []string{"accept", "refuse", "trade", "rest", "drop", "cancel", "reduce", "end", "expire"} {
		if seen[word] < 20 {
			t.Errorf("%v: the test asks too little", seen)
		}
	}
}

// mirrorLine sells what was bought, at prices laid out the other way round.
func mirrorLine(line string) string {
	c, ok := wantCmd(line)
	if !ok {
		return line
	}
	out, ok := cmdLine(mirrorCmd(c))
	if !ok {
		panic(line)
	}
	return out
}

// mirrorSaid is what a desk says to lines in the mirror.
func mirrorSaid(said string) string {
	var out, book []string
	closeBook := func() {
		// The sides change places as wholes: what is bought stands ahead in either.
		slices.SortStableFunc(book, func(a, b string) int { return strings.Compare(a[:1], b[:1]) })
		out, book = append(out, book...), nil
	}
	for _, line := range wantLines(said) {
		word := strings.Split(line, " ")[0]
		switch word {
		case "buy", "sell":
			_, n := numbersIn(line)
			other := map[string]string{"buy": "sell", "sell": "buy"}[word]
			book = append(book, fmt.Sprintf("%s %d %d %d", other, mirrorTicks(n[0]), n[1], n[2]))
			continue
		case "trade":
			_, n := numbersIn(line)
			line = fmt.Sprintf("trade %d %d %d %d", n[0], n[1], n[2], mirrorTicks(n[3]))
		}
		closeBook()
		out = append(out, line)
	}
	closeBook()
	return textOfLines(out)
}

// TestPromise5DeskInTheMirror asks for each line the same, seen in a mirror.
func TestPromise5DeskInTheMirror(t *testing.T) {
	p := picker{151}
	books := 0
	for range 120 {
		var lines, mirrored []string
		for _, line := range scriptLines(pickScript(&p, p.below(100))) {
			lines = append(lines, line)
			if p.below(4) == 0 {
				lines = append(lines, []string{"book", "go"}[p.below(2)], "end 0")
			}
		}
		for _, line := range lines {
			mirrored = append(mirrored, mirrorLine(line))
			books += reasonIf(line == "book", 1)
		}
		said, _ := impl.Desk(textOfLines(lines))
		got, code := impl.Desk(textOfLines(mirrored))
		if want := mirrorSaid(said); got != want || code != impl.OK {
			t.Fatalf("in the mirror the desk says %s, %d, not %s, of %s", showText(got), code, showText(want), showText(textOfLines(mirrored)))
		}
	}
	if books < 300 {
		t.Errorf("%d books: the test asks too little", books)
	}
}
