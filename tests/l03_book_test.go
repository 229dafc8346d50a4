package tests

import (
	"fmt"
	"slices"
	"strings"
	"testing"

	"loop.example/g00092/impl"
)

// anySides are the two sides and numbers that are none.
var anySides = []int{impl.SdBuy, impl.SdSell, 0, 3, -1, -2, leastInt, greatestInt}

// ordinaryBook has both sides, levels of several orders, and Ids that are left out.
func ordinaryBook() impl.Book {
	return impl.Book{Next: 12, Orders: []impl.Order{
		{Id: 2, Side: impl.SdBuy, Ticks: 398, Left: 5, Tag: "first"},
		{Id: 3, Side: impl.SdSell, Ticks: 401, Left: 2, Life: impl.LfDay},
		{Id: 4, Side: impl.SdBuy, Ticks: 399, Left: 1},
		{Id: 6, Side: impl.SdSell, Ticks: 400, Left: 3, Tag: "a ~"},
		{Id: 7, Side: impl.SdBuy, Ticks: 398, Left: 4, Life: impl.LfDay},
		{Id: 8, Side: impl.SdSell, Ticks: 401, Left: 9},
		{Id: 11, Side: impl.SdBuy, Ticks: 397, Left: 7},
	}}
}

func level(side, ticks, qty, count int) impl.Level {
	return impl.Level{Side: side, Ticks: ticks, Qty: qty, Count: count}
}

func cloneBook(b impl.Book) impl.Book {
	b.Orders = slices.Clone(b.Orders)
	return b
}

// fullBook has MaxOrders orders, Ids 1 and on, on MaxLevels levels, half of them on each side.
func fullBook() impl.Book {
	b := impl.Book{Next: impl.MaxOrders + 1}
	for i := range impl.MaxOrders {
		o := impl.Order{Id: i + 1, Side: impl.SdBuy, Ticks: 10 - i/2%4, Left: 1 + i}
		if i%2 == 1 {
			o.Side, o.Ticks = impl.SdSell, 20+i/2%4
		}
		b.Orders = append(b.Orders, o)
	}
	return b
}

// rowBook has an order of a side for each of some Ticks, in that order.
func rowBook(side int, ticks ...int) impl.Book {
	b := impl.Book{Next: len(ticks) + 1}
	for i, n := range ticks {
		b.Orders = append(b.Orders, impl.Order{Id: i + 1, Side: side, Ticks: n, Left: 100 + i})
	}
	return b
}

// behind lays the orders of one book behind those of another.
func behind(b, c impl.Book) impl.Book {
	b = cloneBook(b)
	for _, o := range c.Orders {
		o.Id += b.Next - 1
		b.Orders = append(b.Orders, o)
	}
	b.Next += c.Next - 1
	return b
}

// tradesAhead is the document's sentence.
func tradesAhead(o, p impl.Order) bool {
	switch {
	case o.Ticks == p.Ticks:
		return o.Id < p.Id
	case o.Side == impl.SdBuy:
		return o.Ticks > p.Ticks
	}
	return o.Ticks < p.Ticks
}

// wantQueue puts each order at the place that is told by how many trade ahead of it.
func wantQueue(b impl.Book, side int) []impl.Order {
	var list []impl.Order
	for _, o := range b.Orders {
		if o.Side == side {
			list = append(list, o)
		}
	}
	out := make([]impl.Order, len(list))
	for _, o := range list {
		place := 0
		for _, p := range list {
			if tradesAhead(p, o) {
				place++
			}
		}
		out[place] = o
	}
	return out
}

func wantLevels(b impl.Book) []impl.Level {
	var out []impl.Level
	for _, side := range []int{impl.SdBuy, impl.SdSell} {
		for _, o := range wantQueue(b, side) {
			if last := len(out) - 1; last >= 0 && out[last].Side == side && out[last].Ticks == o.Ticks {
				out[last].Qty += o.Left
				out[last].Count++
				continue
			}
			out = append(out, impl.Level{Side: side, Ticks: o.Ticks, Qty: o.Left, Count: 1})
		}
	}
	return out
}

func wantTag(t string) bool {
	return len(t) <= 12 && strings.IndexFunc(t, func(r rune) bool { return r < ' ' || r > '~' }) < 0
}

// wantBookOK asks each order against each other one.
func wantBookOK(b impl.Book) bool {
	if b.Next < 1 || b.Next > 1000000 || len(b.Orders) > 20 {
		return false
	}
	levels := map[[2]int]bool{}
	for i, o := range b.Orders {
		if o.Id < 1 || o.Id > b.Next-1 || o.Side != 1 && o.Side != 2 || o.Life != 0 && o.Life != 1 || !wantTag(o.Tag) {
			return false
		}
		if o.Ticks < 1 || o.Ticks > 1000000 || o.Left < 1 || o.Left > 1000000 {
			return false
		}
		for _, p := range b.Orders[i+1:] {
			if o.Id >= p.Id || o.Side == 1 && p.Side == 2 && o.Ticks >= p.Ticks || o.Side == 2 && p.Side == 1 && o.Ticks <= p.Ticks {
				return false
			}
		}
		levels[[2]int{o.Side, o.Ticks}] = true
	}
	return len(levels) <= 8
}

// showBook keeps failures readable, whatever the book is.
func showBook(b impl.Book) string {
	var out strings.Builder
	fmt.Fprintf(&out, "Next %d, %d orders:", b.Next, len(b.Orders))
	for i, o := range b.Orders {
		if i > impl.MaxOrders {
			out.WriteString(" ..")
			break
		}
		fmt.Fprintf(&out, " {%d side %d ticks %d left %d life %d %+q}", o.Id, o.Side, o.Ticks, o.Left, o.Life, o.Tag[:min(len(o.Tag), 20)])
	}
	return out.String()
}

// checkRightBook asks all of chapter 4 of a book that is right.
func checkRightBook(t *testing.T, name string, b impl.Book) {
	t.Helper()
	if !impl.BookOK(b) {
		t.Fatalf("%s: BookOK is false of %s", name, showBook(b))
	}
	for _, side := range anySides {
		want := wantQueue(b, side)
		queue, code := impl.Queue(b, side)
		if code != impl.OK || !slices.Equal(queue, want) {
			t.Fatalf("%s: Queue(side %d) = %v, %d, not %v, of %s", name, side, queue, code, want, showBook(b))
		}
		front, code := impl.Front(b, side)
		if len(want) == 0 && (code != impl.ErrNone || front != impl.Order{}) {
			t.Fatalf("%s: Front(side %d) = %v, %d, where there is none, of %s", name, side, front, code, showBook(b))
		}
		if len(want) > 0 && (code != impl.OK || front != want[0]) {
			t.Fatalf("%s: Front(side %d) = %v, %d, not %v, of %s", name, side, front, code, want[0], showBook(b))
		}
	}
	levels, code := impl.Levels(b)
	if want := wantLevels(b); code != impl.OK || !slices.Equal(levels, want) {
		t.Fatalf("%s: Levels = %v, %d, not %v, of %s", name, levels, code, want, showBook(b))
	}
}

// checkWrongBook asks that all of chapter 4 turns a book down.
func checkWrongBook(t *testing.T, name string, b impl.Book) {
	t.Helper()
	if impl.BookOK(b) {
		t.Fatalf("%s: BookOK is true of %s", name, showBook(b))
	}
	for _, side := range anySides {
		if queue, code := impl.Queue(b, side); code != impl.ErrBad || len(queue) != 0 {
			t.Fatalf("%s: Queue(side %d) = %d orders, %d, of %s", name, side, len(queue), code, showBook(b))
		}
		if front, code := impl.Front(b, side); code != impl.ErrBad || (front != impl.Order{}) {
			t.Fatalf("%s: Front(side %d) = %v, %d, of %s", name, side, front, code, showBook(b))
		}
	}
	if levels, code := impl.Levels(b); code != impl.ErrBad || len(levels) != 0 {
		t.Fatalf("%s: Levels = %v, %d, of %s", name, levels, code, showBook(b))
	}
}

func checkBook(t *testing.T, name string, b impl.Book, right bool) {
	t.Helper()
	if right != wantBookOK(b) {
		t.Fatalf("%s: the test itself is wrong about %s", name, showBook(b))
	}
	if right {
		checkRightBook(t, name, b)
	} else {
		checkWrongBook(t, name, b)
	}
}

// TestBookAsTold has its answers written out.
func TestBookAsTold(t *testing.T) {
	b := ordinaryBook()
	if !impl.BookOK(b) {
		t.Fatal("BookOK")
	}
	ids := func(side int) []int {
		var out []int
		list, _ := impl.Queue(b, side)
		for _, o := range list {
			out = append(out, o.Id)
		}
		return out
	}
	if got := ids(impl.SdBuy); !slices.Equal(got, []int{4, 2, 7, 11}) {
		t.Error("the buying orders stand as", got)
	}
	if got := ids(impl.SdSell); !slices.Equal(got, []int{6, 3, 8}) {
		t.Error("the selling orders stand as", got)
	}
	if o, code := impl.Front(b, impl.SdSell); code != impl.OK || o != b.Orders[3] {
		t.Error("the front is", o, code)
	}
	want := []impl.Level{level(1, 399, 1, 1), level(1, 398, 9, 2), level(1, 397, 7, 1), level(2, 400, 3, 1), level(2, 401, 11, 2)}
	if got, code := impl.Levels(b); code != impl.OK || !slices.Equal(got, want) {
		t.Error("the levels are", got, code)
	}
}

// bookCase is a book with what the document says of it.
type bookCase struct {
	name  string
	book  impl.Book
	right bool
}

// numberCases change one number of each order of a book, one order at a time.
func numberCases(name string, place func(*impl.Order) *int, right func(n int) bool, numbers ...int) []bookCase {
	var out []bookCase
	for _, n := range append(numbers, leastInt, greatestInt, leastInt+1, greatestInt-1) {
		for i := range ordinaryBook().Orders {
			b := ordinaryBook()
			*place(&b.Orders[i]) = n
			out = append(out, bookCase{fmt.Sprintf("%s %d at order %d", name, n, i), b, right(n)})
		}
	}
	return out
}

func nextCases() []bookCase {
	var out []bookCase
	for _, n := range []int{leastInt, -1, 0, 1, 2, 999999, 1000000, 1000001, greatestInt} {
		right := n >= 1 && n <= 1000000
		out = append(out, bookCase{fmt.Sprint("no orders, Next ", n), impl.Book{Next: n}, right})
		b := rowBook(impl.SdBuy, 5)
		b.Next = n
		out = append(out, bookCase{fmt.Sprint("one order, Next ", n), b, right && n > 1})
	}
	b := rowBook(impl.SdSell, 5, 4)
	b.Next, b.Orders[1].Id = 1000000, 999999
	out = append(out, bookCase{"the greatest Id", cloneBook(b), true})
	b.Next, b.Orders[1].Id = 1000001, 1000000
	return append(out, bookCase{"an Id that is too great", b, false})
}

func countCases() []bookCase {
	out := []bookCase{{"no orders", impl.Book{Next: 1}, true}, {"an empty list", impl.Book{Next: 7, Orders: []impl.Order{}}, true}, {"nothing at all", impl.Book{}, false}}
	for n := 1; n <= 30; n++ {
		for _, side := range []int{impl.SdBuy, impl.SdSell} {
			b := rowBook(side, make([]int, n)...)
			for i := range b.Orders {
				b.Orders[i].Ticks = 7
			}
			out = append(out, bookCase{fmt.Sprint(n, " orders of side ", side), b, n <= 20})
		}
	}
	full := fullBook()
	out = append(out, bookCase{"a full book", full, true})
	more := behind(full, rowBook(impl.SdBuy, 10))
	out = append(out, bookCase{"one more than a full book", more, false})
	great := impl.Book{Next: 1000000}
	for i := range 5000 {
		great.Orders = append(great.Orders, impl.Order{Id: i + 1, Side: 1, Ticks: 1, Left: 1})
	}
	return append(out, bookCase{"more orders than a list may have", great, false})
}

// idCases change the middle one of three Ids: 3, 5 and 8 of Next 9.
func idCases() []bookCase {
	var out []bookCase
	set := func(name string, right bool, next int, ids ...int) {
		b := rowBook(impl.SdSell, 5, 5, 4)
		b.Next = next
		for i, id := range ids {
			b.Orders[i].Id = id
		}
		out = append(out, bookCase{fmt.Sprintf("%s: Ids %v", name, ids), b, right})
	}
	set("rising", true, 9, 3, 5, 8)
	set("the last one is Next - 1", true, 9, 1, 2, 8)
	set("the last one is Next", false, 9, 3, 5, 9)
	set("the last one is beyond Next", false, 9, 3, 5, 10)
	set("all beyond Next", false, 2, 3, 5, 8)
	set("the first one is 1", true, 9, 1, 5, 8)
	set("the first one is 0", false, 9, 0, 5, 8)
	set("the first one is below 0", false, 9, -1, 5, 8)
	set("alike", false, 9, 3, 3, 8)
	set("alike", false, 9, 3, 8, 8)
	set("all alike", false, 9, 3, 3, 3)
	set("falling", false, 9, 8, 5, 3)
	set("the first two fall", false, 9, 5, 3, 8)
	set("the last two fall", false, 9, 3, 8, 5)
	set("neighbours", true, 4, 1, 2, 3)
	for _, n := range []int{leastInt, leastInt + 1, greatestInt - 1, greatestInt} {
		set("far off", false, 9, n, 5, 8)
		set("far off", false, 9, 3, n, 8)
		set("far off", false, 9, 3, 5, n)
		set("far off, Next too", false, n, 3, 5, n)
	}
	return out
}

func tagCases() []bookCase {
	var out []bookCase
	add := func(tag string, right bool) {
		for i := range ordinaryBook().Orders {
			b := ordinaryBook()
			b.Orders[i].Tag = tag
			out = append(out, bookCase{fmt.Sprintf("a Tag of %d bytes %+q at order %d", len(tag), tag[:min(len(tag), 20)], i), b, right})
		}
	}
	for n := range 30 {
		add(strings.Repeat("x", n), n <= 12)
		add(strings.Repeat(" ", n), n <= 12)
	}
	for one := range 256 {
		right := one >= 32 && one <= 126
		add(string([]byte{byte(one)}), right)
		add("abc"+string([]byte{byte(one)}), right)
		add(string([]byte{byte(one)})+"12345678901", right)
	}
	add("é", false)
	add(strings.Repeat("x", impl.MaxText), false)
	add(strings.Repeat("x", impl.MaxText+1), false)
	return out
}

func levelCases() []bookCase {
	eight, nine := []int{11, 14, 10, 17, 12, 13, 16, 15}, []int{11, 14, 10, 17, 12, 18, 13, 16, 15}
	out := []bookCase{
		{"eight buying levels", rowBook(1, eight...), true},
		{"nine buying levels", rowBook(1, nine...), false},
		{"eight selling levels", rowBook(2, eight...), true},
		{"nine selling levels", rowBook(2, nine...), false},
		{"eight levels of two orders", behind(rowBook(1, eight...), rowBook(1, eight...)), true},
		{"nine levels of two orders", behind(rowBook(2, nine...), rowBook(2, nine...)), false},
		{"a ninth level on the other side", behind(rowBook(1, eight...), rowBook(2, 20)), false},
		{"a ninth level on the other side", behind(rowBook(2, eight...), rowBook(1, 2)), false},
		{"twenty levels", rowBook(1, 1, 2, 3, 4, 5, 6, 7, 8, 9, 10, 11, 12, 13, 14, 15, 16, 17, 18, 19, 20), false},
		{"twenty levels", rowBook(2, 20, 19, 18, 17, 16, 15, 14, 13, 12, 11, 10, 9, 8, 7, 6, 5, 4, 3, 2, 1), false},
		{"the same Ticks on both sides", behind(rowBook(1, 5), rowBook(2, 5)), false},
		{"the same Ticks on both sides", behind(rowBook(2, 5), rowBook(1, 5)), false},
		{"five Ticks on both sides", behind(rowBook(1, 1, 2, 3, 4, 5), rowBook(2, 1, 2, 3, 4, 5)), false},
		{"four Ticks on both sides", behind(rowBook(1, 1, 2, 3, 4), rowBook(2, 1, 2, 3, 4)), false},
	}
	for buy := 0; buy <= 10; buy++ {
		for sell := 0; sell <= 10; sell++ {
			low, high := impl.Book{Next: 1}, impl.Book{Next: 1}
			for i := range buy {
				low = behind(low, rowBook(1, 100-i))
			}
			for i := range sell {
				high = behind(high, rowBook(2, 101+i))
			}
			name := fmt.Sprintf("%d buying levels, %d selling ones", buy, sell)
			out = append(out, bookCase{name, behind(low, high), buy+sell <= 8}, bookCase{name, behind(high, low), buy+sell <= 8})
		}
	}
	return out
}

func crossCases() []bookCase {
	var out []bookCase
	for buy := 1; buy <= 5; buy++ {
		for sell := 1; sell <= 5; sell++ {
			name := fmt.Sprintf("buying at %d, selling at %d", buy, sell)
			out = append(out,
				bookCase{name, behind(rowBook(1, buy), rowBook(2, sell)), buy < sell},
				bookCase{name, behind(rowBook(2, sell), rowBook(1, buy)), buy < sell},
				bookCase{name + ", among others", behind(rowBook(1, 1, 1, buy, 1), rowBook(2, 9, 8, sell, 9)), buy < sell && sell > 1},
				bookCase{name + ", among others", behind(rowBook(2, 6, sell, 7), rowBook(1, 1, buy, 1)), buy < sell && sell > 1})
		}
	}
	return append(out,
		bookCase{"far apart", behind(rowBook(1, 1), rowBook(2, 1000000)), true},
		bookCase{"near the greatest", behind(rowBook(1, 999999), rowBook(2, 1000000)), true},
		bookCase{"the greatest on both sides", behind(rowBook(1, 1000000), rowBook(2, 1000000)), false},
		bookCase{"the wrong way round", behind(rowBook(1, 1000000), rowBook(2, 1)), false})
}

func orderCases() []bookCase {
	between := func(least, greatest int) func(int) bool {
		return func(n int) bool { return n >= least && n <= greatest }
	}
	never := func(int) bool { return false }
	out := numberCases("Left", func(o *impl.Order) *int { return &o.Left }, between(1, 1000000), -1, 0, 1, 2, 999999, 1000000, 1000001)
	out = append(out, numberCases("Life", func(o *impl.Order) *int { return &o.Life }, between(0, 1), -2, -1, 0, 1, 2, 3)...)
	out = append(out, numberCases("Side", func(o *impl.Order) *int { return &o.Side }, never, -2, -1, 0, 3, 4)...)
	out = append(out, numberCases("Ticks", func(o *impl.Order) *int { return &o.Ticks }, never, -398, -1, 0, 1000001)...)
	for _, n := range []int{-1, 0, 1, 2, 999999, 1000000, 1000001} {
		for _, side := range []int{impl.SdBuy, impl.SdSell} {
			out = append(out, bookCase{fmt.Sprint("Ticks ", n), rowBook(side, n), n >= 1 && n <= 1000000})
			out = append(out, bookCase{fmt.Sprint("Ticks of the last one ", n), rowBook(side, 5, 5, n), n >= 1 && n <= 1000000})
		}
	}
	return out
}

func bookCases() []bookCase {
	out := []bookCase{{"an ordinary book", ordinaryBook(), true}}
	for _, list := range [][]bookCase{nextCases(), countCases(), idCases(), tagCases(), levelCases(), crossCases(), orderCases()} {
		out = append(out, list...)
	}
	return out
}

func TestPromise4Edges(t *testing.T) {
	for _, c := range bookCases() {
		checkBook(t, c.name, c.book, c.right)
	}
}

// TestPromise4ElderAhead has alike Ticks throughout: nothing but the Ids tells who is ahead.
func TestPromise4ElderAhead(t *testing.T) {
	for _, side := range []int{impl.SdBuy, impl.SdSell} {
		b := rowBook(side, slices.Repeat([]int{9}, impl.MaxOrders)...)
		queue, code := impl.Queue(b, side)
		if code != impl.OK || !slices.Equal(queue, b.Orders) {
			t.Errorf("side %d: %v, %d", side, queue, code)
		}
		if o, code := impl.Front(b, side); code != impl.OK || o.Id != 1 {
			t.Errorf("side %d: the front is %v, %d", side, o, code)
		}
		want := []impl.Level{level(side, 9, 20*100+190, 20)}
		if levels, code := impl.Levels(b); code != impl.OK || !slices.Equal(levels, want) {
			t.Errorf("side %d: the levels are %v, %d", side, levels, code)
		}
	}
}

// TestPromise4GreatestLevel has as much left as there can be.
func TestPromise4GreatestLevel(t *testing.T) {
	b := rowBook(impl.SdBuy, slices.Repeat([]int{1000000}, 20)...)
	for i := range b.Orders {
		b.Orders[i].Left = 1000000
	}
	levels, code := impl.Levels(b)
	if code != impl.OK || !slices.Equal(levels, []impl.Level{level(1, 1000000, 20000000, 20)}) {
		t.Error(levels, code)
	}
}

// orderings calls do with the numbers of a list in all orders.
func orderings(list []int, fixed int, do func([]int)) {
	if fixed == len(list) {
		do(list)
		return
	}
	for i := fixed; i < len(list); i++ {
		list[fixed], list[i] = list[i], list[fixed]
		orderings(list, fixed+1, do)
		list[fixed], list[i] = list[i], list[fixed]
	}
}

// TestPromise4WhateverCameFirst lets the prices of a side come in all orders.
func TestPromise4WhateverCameFirst(t *testing.T) {
	for _, side := range []int{impl.SdBuy, impl.SdSell} {
		orderings([]int{3, 4, 5, 6, 7, 8}, 0, func(ticks []int) {
			checkRightBook(t, "all orders of prices", rowBook(side, ticks...))
			checkRightBook(t, "all orders of prices, twice", rowBook(side, append(slices.Clone(ticks), ticks...)...))
		})
	}
}

// pickBook is right, or nearly.
func pickBook(p *picker) impl.Book {
	b := impl.Book{Next: 1 + p.below(3)}
	middle, spread := 20+p.below(10), 1+p.below(5)
	for range p.below(impl.MaxOrders + 1) {
		o := impl.Order{Id: b.Next, Side: impl.SdBuy, Ticks: middle - p.below(spread), Left: 1 + p.below(50), Life: p.below(2), Tag: strings.Repeat("t", p.below(13))}
		if p.below(2) == 0 {
			o.Side, o.Ticks = impl.SdSell, middle+1+p.below(spread)
		}
		b.Orders = append(b.Orders, o)
		b.Next += 1 + p.below(3)
	}
	return b
}

func TestPromise4AnyBook(t *testing.T) {
	p := picker{41}
	right := 0
	for range 6000 {
		b := pickBook(&p)
		ok := wantBookOK(b)
		if ok {
			right++
		}
		checkBook(t, "a picked book", b, ok)
	}
	if right < 1000 || right > 5900 {
		t.Errorf("%d of the books are right: the test asks too little", right)
	}
}

// spoilBook changes one number of a book.
func spoilBook(p *picker, b impl.Book) impl.Book {
	numbers := []int{leastInt, -1, 0, 1, 2, 3, 19, 25, 1000000, 1000001, greatestInt}
	n := numbers[p.below(len(numbers))]
	if len(b.Orders) == 0 {
		b.Next = n
		return b
	}
	b = cloneBook(b)
	o := &b.Orders[p.below(len(b.Orders))]
	switch p.below(7) {
	case 0:
		b.Next = n
	case 1:
		o.Id = n
	case 2:
		o.Side = n
	case 3:
		o.Ticks = n
	case 4:
		o.Left = n
	case 5:
		o.Life = n
	case 6:
		o.Tag = strings.Repeat("x", n&15)
	}
	return b
}

func TestPromise4AnySpoiledBook(t *testing.T) {
	p := picker{42}
	for range 20000 {
		b := spoilBook(&p, pickBook(&p))
		checkBook(t, "a spoiled book", b, wantBookOK(b))
	}
}

// TestPromise4AllOrders counts: each order stands in one queue once, and in one level.
func TestPromise4AllOrders(t *testing.T) {
	p := picker{43}
	for range 3000 {
		b := pickBook(&p)
		if !impl.BookOK(b) {
			continue
		}
		buy, _ := impl.Queue(b, impl.SdBuy)
		sell, _ := impl.Queue(b, impl.SdSell)
		all := append(slices.Clone(buy), sell...)
		slices.SortFunc(all, func(o, p impl.Order) int { return o.Id - p.Id })
		if !slices.Equal(all, b.Orders) {
			t.Fatalf("the queues are not the orders of %s", showBook(b))
		}
		count, qty := 0, 0
		levels, _ := impl.Levels(b)
		for _, l := range levels {
			count += l.Count
			qty += l.Qty
		}
		for _, o := range b.Orders {
			count--
			qty -= o.Left
		}
		if count != 0 || qty != 0 {
			t.Fatalf("the levels %v are not the orders of %s", levels, showBook(b))
		}
	}
}
