package tests

import (
	"fmt"
	"math"
	"slices"
	"testing"

	"loop.example/g00092/impl"
)

// pairBook has one order on each side.
func pairBook(buyTicks, buyLeft, sellTicks, sellLeft int) impl.Book {
	return impl.Book{Next: 3, Orders: []impl.Order{
		{Id: 1, Side: impl.SdBuy, Ticks: buyTicks, Left: buyLeft},
		{Id: 2, Side: impl.SdSell, Ticks: sellTicks, Left: sellLeft},
	}}
}

// heavyBook is full of orders that have as much left as they may, on both sides.
func heavyBook() impl.Book {
	b := fullBook()
	for i := range b.Orders {
		b.Orders[i].Left = impl.MaxQty
	}
	return b
}

// bits are a float's; 1 stands for any NaN, as no figure is the least float above nought.
func bits(x float64) uint64 {
	if math.IsNaN(x) {
		return 1
	}
	return math.Float64bits(x)
}

const (
	anyNaN   uint64 = 1
	plusInf  uint64 = 0x7FF0000000000000
	minusInf uint64 = 0xFFF0000000000000
	plusZero uint64 = 0
	halfBits uint64 = 0x3FE0000000000000
	oneBits  uint64 = 0x3FF0000000000000
	below0   uint64 = 0x8000000000000000
)

// TestPromise14VwapAsTold has its bits written out.
func TestPromise14VwapAsTold(t *testing.T) {
	cases := []struct {
		notional, volume int
		want             uint64
	}{
		{0, 0, anyNaN}, {1, 0, plusInf}, {3, 0, plusInf}, {greatestInt, 0, plusInf},
		{0, 1, plusZero}, {0, 7, plusZero}, {0, greatestInt, plusZero},
		{4, 1, oneBits}, {2, 1, halfBits}, {1, 1, 0x3FD0000000000000}, {3, 1, 0x3FE8000000000000},
		{1602, 4, 0x4059080000000000}, {1, 3, 0x3FB5555555555555}, {2, 3, 0x3FC5555555555555}, {4, 10, 0x3FB999999999999A},
		{greatestInt, greatestInt, 0x3FD0000000000000}, {greatestInt, 1, 0x43C0000000000000}, {1, greatestInt, 0x3BE0000000000000},
		{1 << 53, 1, 0x4320000000000000}, {1<<53 + 1, 1, 0x4320000000000000}, {1<<53 + 2, 1, 0x4320000000000001}, {1<<53 + 3, 1, 0x4320000000000002},
		{1<<53 + 1, 1<<53 + 1, 0x3FD0000000000000}, {1<<53 + 1, 1 << 53, 0x3FD0000000000000}, {1 << 53, 1<<53 + 3, 0x3FCFFFFFFFFFFFFC},
		{1<<54 + 2, 1, 0x4330000000000000}, {1<<54 + 6, 1, 0x4330000000000002},
	}
	for _, c := range cases {
		for _, b := range []impl.Book{{Next: 1}, ordinaryBook()} {
			f, code := impl.FiguresOf(impl.Totals{Volume: c.volume, Notional: c.notional}, b)
			if code != impl.OK || bits(f.Vwap) != c.want {
				t.Errorf("the Vwap of %d by %d is %v (%x), %d, not %x", c.notional, c.volume, f.Vwap, bits(f.Vwap), code, c.want)
			}
		}
	}
}

// TestPromise14BookAsTold has its bits written out.
func TestPromise14BookAsTold(t *testing.T) {
	const third, fifth = 0x3FD5555555555555, 0x3FC999999999999A
	cases := []struct {
		name              string
		book              impl.Book
		mid, spread, tilt uint64
	}{
		{"no orders", impl.Book{Next: 1}, anyNaN, plusInf, anyNaN},
		{"no orders any more", impl.Book{Next: 1000000, Orders: []impl.Order{}}, anyNaN, plusInf, anyNaN},
		{"one buying order", rowBook(impl.SdBuy, 400), anyNaN, plusInf, oneBits},
		{"one selling order", rowBook(impl.SdSell, 400), anyNaN, plusInf, below0 | oneBits},
		{"buying orders", rowBook(impl.SdBuy, 400, 399, 401), anyNaN, plusInf, oneBits},
		{"selling orders", rowBook(impl.SdSell, 400, 399, 401), anyNaN, plusInf, below0 | oneBits},
		{"alike on both sides", pairBook(399, 7, 401, 7), 0x4059000000000000, halfBits, plusZero},
		{"as much as may be left, on both sides", pairBook(399, 1000000, 401, 1000000), 0x4059000000000000, halfBits, plusZero},
		{"more to buy", pairBook(398, 3, 401, 1), 0x4058F80000000000, 0x3FE8000000000000, halfBits},
		{"more to sell", pairBook(398, 1, 401, 3), 0x4058F80000000000, 0x3FE8000000000000, below0 | halfBits},
		{"twice as much to buy", pairBook(4, 2, 12, 1), 0x4000000000000000, 0x4000000000000000, third},
		{"twice as much to sell", pairBook(4, 1, 12, 2), 0x4000000000000000, 0x4000000000000000, below0 | third},
		{"three to two", pairBook(1, 3, 2, 2), 0x3FD8000000000000, 0x3FD0000000000000, fifth},
		{"the least Ticks", pairBook(1, 1, 2, 1), 0x3FD8000000000000, 0x3FD0000000000000, plusZero},
		{"the greatest Ticks", pairBook(999999, 1, 1000000, 1), 0x410E847F00000000, 0x3FD0000000000000, plusZero},
		{"far apart", pairBook(1, 1, 1000000, 1), 0x40FE848200000000, 0x410E847E00000000, plusZero},
		{"many orders", ordinaryBook(), 0x4058F80000000000, 0x3FD0000000000000, 0x3FB8C6318C6318C6},
		{"a full book", fullBook(), 0x400E000000000000, 0x4004000000000000, 0xBFA8618618618618},
		{"a heavy book", heavyBook(), 0x400E000000000000, 0x4004000000000000, plusZero},
	}
	for _, c := range cases {
		for _, totals := range []impl.Totals{{}, {Volume: 3, Notional: 1}, {Volume: greatestInt, Notional: greatestInt}} {
			f, code := impl.FiguresOf(totals, c.book)
			if code != impl.OK || bits(f.Mid) != c.mid || bits(f.Spread) != c.spread || bits(f.Tilt) != c.tilt {
				t.Errorf("%s: %s, %d, not %x %x %x", c.name, figuresText(f), code, c.mid, c.spread, c.tilt)
			}
		}
	}
}

// edgeTotals have no number of Volume and Notional below 0.
func edgeTotals() []impl.Totals {
	numbers := []int{0, 1, 2, 3, 4, 5, 7, 10, 1602, 1000000, 1 << 52, 1<<53 - 1, 1 << 53, 1<<53 + 1, 1<<53 + 2, 1<<53 + 3, 1<<54 + 1, 1<<60 + 12345, 1<<62 - 1, 1 << 62, greatestInt - 1024, greatestInt - 512, greatestInt - 511, greatestInt - 1, greatestInt}
	var out []impl.Totals
	for _, volume := range numbers {
		for _, notional := range numbers {
			out = append(out, impl.Totals{Volume: volume, Notional: notional})
		}
	}
	return out
}

func TestPromise14FiguresOfEdges(t *testing.T) {
	for _, totals := range edgeTotals() {
		for _, b := range []impl.Book{{Next: 1}, rowBook(impl.SdBuy, 5), ordinaryBook(), fullBook()} {
			checkFigures(t, "edges of totals", totals, b)
		}
	}
	for i, c := range bookCases() {
		totals := edgeTotals()
		checkFigures(t, c.name, totals[i%len(totals)], c.book)
	}
}

// withTotals has a number in all fields that no figure hangs on.
func withTotals(n, volume, notional int) impl.Totals {
	return impl.Totals{Groups: n, Accepted: n, Refused: n, Trades: n, Volume: volume, Notional: notional, Live: n, Left: n}
}

// TestPromise14WrongFigures has each fault alone, and two at once.
func TestPromise14WrongFigures(t *testing.T) {
	wrongBooks := []impl.Book{{}, {Next: -1}, {Next: 1000001}, pairBook(400, 1, 400, 1), pairBook(401, 1, 400, 1), pairBook(1, 0, 2, 1), rowBook(impl.SdBuy, 1, 2, 3, 4, 5, 6, 7, 8, 9), behind(fullBook(), fullBook())}
	refused := func(totals impl.Totals, b impl.Book) {
		t.Helper()
		if f, code := impl.FiguresOf(totals, b); code != impl.ErrBad || !sameFigures(f, impl.Figures{}) {
			t.Errorf("FiguresOf = %s, %d, of %+v and %s", figuresText(f), code, totals, showBook(b))
		}
	}
	for _, n := range []int{-1, -2, -1 << 53, leastInt + 1, leastInt} {
		for _, b := range append(wrongBooks, impl.Book{Next: 1}, ordinaryBook(), rowBook(impl.SdSell, 5)) {
			for _, right := range []int{0, 1, greatestInt} {
				refused(impl.Totals{Volume: n, Notional: right}, b)
				refused(impl.Totals{Volume: right, Notional: n}, b)
			}
			refused(impl.Totals{Volume: n, Notional: n}, b)
		}
	}
	for _, b := range wrongBooks {
		refused(impl.Totals{}, b)
		refused(impl.Totals{Volume: 4, Notional: 1602}, b)
	}
}

// TestPromise14OtherTotals asks that no figure hangs on the other numbers of totals.
func TestPromise14OtherTotals(t *testing.T) {
	for _, n := range []int{leastInt, -1, 0, 1, 20, greatestInt} {
		for _, b := range []impl.Book{{Next: 1}, ordinaryBook(), rowBook(impl.SdSell, 5)} {
			checkFigures(t, "other totals", withTotals(n, 0, 0), b)
			checkFigures(t, "other totals", withTotals(n, 4, 1602), b)
			checkFigures(t, "other totals", withTotals(n, -1, 1), b)
		}
	}
}

func TestPromise14AnyFigures(t *testing.T) {
	p := picker{131}
	n := func() int { return int(p.next()>>1) >> p.below(63) }
	for range 20000 {
		b := pickBook(&p)
		if p.below(6) == 0 {
			b = spoilBook(&p, b)
		}
		for i := range b.Orders {
			if p.below(3) == 0 {
				b.Orders[i].Left = 1 + p.below(impl.MaxQty)
			}
		}
		checkFigures(t, "any figures", impl.Totals{Volume: n(), Notional: n()}, b)
	}
}

// TestPromise14FiguresOfRuns takes the totals and the books of scripts.
func TestPromise14FiguresOfRuns(t *testing.T) {
	p := picker{132}
	for range 60 {
		log, _ := impl.RunScript(pickScript(&p, impl.MaxCmds))
		checkFigures(t, "a run", log.Totals, log.Book)
		f, _ := impl.FiguresOf(log.Totals, log.Book)
		if log.Totals.Trades > 0 && !(f.Vwap >= 0.25 && f.Vwap <= 250000) {
			t.Errorf("a Vwap of %v", f.Vwap)
		}
	}
	if log, _ := impl.RunScript(toldScript()); log.Totals.Trades == 0 {
		t.Error("the told script does not trade: the test asks too little")
	}
}

// TestPromise14Mirror: buying and selling are one seen in a mirror, and a mirror's nought has no sign.
func TestPromise14Mirror(t *testing.T) {
	p := picker{133}
	for range 3000 {
		b := pickBook(&p)
		f, code := impl.FiguresOf(impl.Totals{}, b)
		g, mirrored := impl.FiguresOf(impl.Totals{}, mirrorBook(b))
		if code != mirrored || f.Tilt != -g.Tilt && !math.IsNaN(f.Tilt) || f.Tilt == 0 && (math.Signbit(f.Tilt) || math.Signbit(g.Tilt)) {
			t.Fatalf("a Tilt of %v, %d, and in a mirror %v, %d, of %s", f.Tilt, code, g.Tilt, mirrored, showBook(b))
		}
		if !sameFloat(f.Spread, g.Spread) {
			t.Fatalf("a Spread of %v, and in a mirror %v, of %s", f.Spread, g.Spread, showBook(b))
		}
	}
}

// kindCase is a float with its kind, told by hand.
type kindCase struct {
	x    float64
	kind int
}

func kindCases() []kindCase {
	out := []kindCase{{math.NaN(), missingKind}, {math.Inf(1), highKind}, {math.Inf(-1), lowKind}, {0, noughtKind}, {minusNought, minusKind}}
	for _, one := range append(otherNaNBits(), 0x7FF8000000000000, 0xFFF8000000000000) {
		out = append(out, kindCase{math.Float64frombits(one), missingKind})
	}
	for _, x := range []float64{0.25, 0.5, 0.75, 1, 1.25, 99.75, 249999.75, 250000, 131072, 65536.5} {
		out = append(out, kindCase{x, rightKind}, kindCase{-x, otherKind},
			kindCase{math.Nextafter(x, 0), otherKind}, kindCase{math.Nextafter(x, 1e9), otherKind}, kindCase{x + 0.125, otherKind})
	}
	for _, x := range []float64{math.SmallestNonzeroFloat64, math.MaxFloat64, 0.1, 0.125, 0.2, 0.3, 250000.25, 250001, 1000000, 1 << 53, 1 << 62, 1 << 63, 1 << 64, 1e300, 0x1p-1022} {
		out = append(out, kindCase{x, otherKind}, kindCase{-x, otherKind})
	}
	return out
}

func TestPromise14KindsOfEach(t *testing.T) {
	for _, c := range kindCases() {
		for _, count := range []int{1, 2, 5, impl.MaxList} {
			var counts [kindsOfFloats]int
			counts[c.kind] = count
			list := slices.Repeat([]float64{c.x}, count)
			if k, code := impl.KindsOf(list); code != impl.OK || k != kindsWith(counts) {
				t.Fatalf("KindsOf of %d times %v (%x) = %+v, %d", count, c.x, math.Float64bits(c.x), k, code)
			}
		}
	}
	if k, code := impl.KindsOf(nil); code != impl.OK || k != (impl.Kinds{}) {
		t.Errorf("KindsOf of nothing = %+v, %d", k, code)
	}
}

// TestPromise14KindsAddUp has lists of many floats, each of which counts once.
func TestPromise14KindsAddUp(t *testing.T) {
	p := picker{134}
	cases := kindCases()
	for _, count := range []int{0, 1, 7, 100, impl.MaxList - 1, impl.MaxList} {
		for range 20 {
			var counts [kindsOfFloats]int
			list := make([]float64, count)
			for i := range list {
				c := cases[p.below(len(cases))]
				list[i] = c.x
				counts[c.kind]++
			}
			k, code := impl.KindsOf(list)
			if code != impl.OK || k != kindsWith(counts) {
				t.Fatalf("KindsOf = %+v, %d, not %+v, of %s", k, code, kindsWith(counts), showFloats(list))
			}
			if sum := k.Missing + k.High + k.Low + k.Nought + k.Minus + k.Right + k.Other; sum != count {
				t.Fatalf("%d floats have %d kinds: %+v", count, sum, k)
			}
		}
	}
}

// TestPromise14KindsOfAllPrices has each price that there is.
func TestPromise14KindsOfAllPrices(t *testing.T) {
	for start := 1; start <= impl.MaxTicks; start += 1000 {
		var list []float64
		for n := range 1000 {
			list = append(list, float64(start+n)/4, -float64(start+n)/4, (float64(start+n)+0.5)/4)
		}
		if k, code := impl.KindsOf(list); code != impl.OK || k != (impl.Kinds{Right: 1000, Other: 2000}) {
			t.Fatalf("KindsOf of the prices from %d ticks on = %+v, %d", start, k, code)
		}
	}
}

// TestPromise14RangeAsTold has its bits written out.
func TestPromise14RangeAsTold(t *testing.T) {
	nan, inf := math.NaN(), math.Inf(1)
	cases := []struct {
		list            []float64
		least, greatest uint64
	}{
		{[]float64{1}, oneBits, oneBits}, {[]float64{-1}, below0 | oneBits, below0 | oneBits},
		{[]float64{0}, plusZero, plusZero}, {[]float64{minusNought}, below0, below0},
		{[]float64{0, 0}, plusZero, plusZero}, {[]float64{minusNought, minusNought}, below0, below0},
		{[]float64{0, minusNought}, below0, plusZero}, {[]float64{minusNought, 0}, below0, plusZero},
		{[]float64{minusNought, nan, 0, minusNought}, below0, plusZero}, {[]float64{0, minusNought, nan, 0}, below0, plusZero},
		{[]float64{minusNought, 1}, below0, oneBits}, {[]float64{1, 0}, plusZero, oneBits}, {[]float64{-1, minusNought}, below0 | oneBits, below0}, {[]float64{0, -1}, below0 | oneBits, plusZero},
		{[]float64{nan, 1, 0.5}, halfBits, oneBits}, {[]float64{1, nan, 0.5}, halfBits, oneBits}, {[]float64{1, 0.5, nan}, halfBits, oneBits},
		{[]float64{nan, nan, -1, nan, 1, nan}, below0 | oneBits, oneBits}, {[]float64{nan, 1}, oneBits, oneBits}, {[]float64{1, nan}, oneBits, oneBits},
		{[]float64{inf}, plusInf, plusInf}, {[]float64{-inf}, minusInf, minusInf}, {[]float64{inf, -inf}, minusInf, plusInf}, {[]float64{-inf, nan, inf}, minusInf, plusInf},
		{[]float64{inf, inf}, plusInf, plusInf}, {[]float64{inf, 1}, oneBits, plusInf}, {[]float64{1, -inf}, minusInf, oneBits},
		{[]float64{-inf, -1}, minusInf, below0 | oneBits}, {[]float64{-0.5, -1}, below0 | oneBits, below0 | halfBits},
		{[]float64{math.MaxFloat64, inf, -math.MaxFloat64}, 0xFFEFFFFFFFFFFFFF, plusInf}, {[]float64{math.MaxFloat64, -inf, -math.MaxFloat64}, minusInf, 0x7FEFFFFFFFFFFFFF},
		{[]float64{math.SmallestNonzeroFloat64, 0, -math.SmallestNonzeroFloat64}, below0 | 1, 1}, {[]float64{math.SmallestNonzeroFloat64, 0}, plusZero, 1}, {[]float64{minusNought, -math.SmallestNonzeroFloat64}, below0 | 1, below0},
	}
	for _, c := range cases {
		least, greatest, code := impl.RangeOf(c.list)
		if code != impl.OK || math.Float64bits(least) != c.least || math.Float64bits(greatest) != c.greatest {
			t.Errorf("RangeOf(%v) = %v, %v, %d", c.list, least, greatest, code)
		}
	}
}

func TestPromise14RangeOfNone(t *testing.T) {
	lists := [][]float64{nil, {}, {math.NaN()}, {math.NaN(), math.NaN()}, slices.Repeat([]float64{math.NaN()}, impl.MaxList)}
	var all []float64
	for _, one := range otherNaNBits() {
		all = append(all, math.Float64frombits(one))
		lists = append(lists, []float64{math.Float64frombits(one)})
	}
	for _, list := range append(lists, all) {
		least, greatest, code := impl.RangeOf(list)
		if code != impl.ErrNone || !sameFloat(least, 0) || !sameFloat(greatest, 0) {
			t.Errorf("RangeOf of %s = %v, %v, %d", showFloats(list), least, greatest, code)
		}
	}
}

// TestPromise14RangeInAnyOrder has lists in all their orders, each pair of edges among them.
func TestPromise14RangeInAnyOrder(t *testing.T) {
	floats := []float64{minusNought, 0, math.NaN(), -1.5, 2.5, math.Inf(1), math.Inf(-1)}
	orderings([]int{0, 1, 2, 3, 4, 5, 6}, 0, func(order []int) {
		var list []float64
		for _, i := range order {
			list = append(list, floats[i])
		}
		for end := range len(list) + 1 {
			checkFloats(t, "all orders", list[:end])
		}
	})
	edges := append(edgeFloats(), math.NaN(), 0.75, -0.75)
	for _, x := range edges {
		for _, y := range edges {
			checkFloats(t, "each pair", []float64{x, y})
		}
	}
}

// TestPromise14SumsAsTold has its bits written out.
func TestPromise14SumsAsTold(t *testing.T) {
	nan, inf := math.NaN(), math.Inf(1)
	const great = math.MaxFloat64
	cases := []struct {
		list []float64
		want uint64
	}{
		{nil, plusZero}, {[]float64{}, plusZero}, {[]float64{0}, plusZero}, {[]float64{minusNought}, plusZero},
		{[]float64{minusNought, minusNought, minusNought}, plusZero}, {slices.Repeat([]float64{minusNought}, impl.MaxList), plusZero},
		{[]float64{1, -1}, plusZero}, {[]float64{-1, 1}, plusZero}, {[]float64{-1, 1, minusNought}, plusZero},
		{[]float64{1}, oneBits}, {[]float64{-1}, below0 | oneBits}, {[]float64{0.25, 0.25}, halfBits}, {[]float64{-1, minusNought}, below0 | oneBits},
		{[]float64{0.1, 0.2, 0.3}, 0x3FE3333333333334}, {[]float64{0.3, 0.2, 0.1}, 0x3FE3333333333333}, {[]float64{0.2, 0.3, 0.1}, 0x3FE3333333333333},
		{[]float64{1e16, 1, -1e16}, plusZero}, {[]float64{1e16, -1e16, 1}, oneBits}, {[]float64{1, 1e16, -1e16}, plusZero}, {[]float64{-1e16, 1e16, 1}, oneBits},
		{[]float64{great, great}, plusInf}, {[]float64{-great, -great}, minusInf}, {[]float64{great, great, -great}, plusInf}, {[]float64{great, -great, great}, 0x7FEFFFFFFFFFFFFF},
		{[]float64{great, great, -inf}, anyNaN}, {[]float64{-great, -great, inf}, anyNaN}, {[]float64{great, 1}, 0x7FEFFFFFFFFFFFFF},
		{[]float64{inf}, plusInf}, {[]float64{-inf}, minusInf}, {[]float64{inf, inf}, plusInf}, {[]float64{inf, -1}, plusInf}, {[]float64{1, -inf}, minusInf},
		{[]float64{inf, -inf}, anyNaN}, {[]float64{-inf, inf}, anyNaN}, {[]float64{inf, -inf, inf}, anyNaN}, {[]float64{1, inf, 2, -inf, 3}, anyNaN},
		{[]float64{nan}, anyNaN}, {[]float64{1, nan}, anyNaN}, {[]float64{nan, 1}, anyNaN}, {[]float64{nan, inf}, anyNaN}, {[]float64{1, nan, 2}, anyNaN},
		{[]float64{math.SmallestNonzeroFloat64, -math.SmallestNonzeroFloat64}, plusZero}, {[]float64{0x1p-1022, -0x1p-1074}, 0x000FFFFFFFFFFFFF}, {[]float64{-0x1p-1074, -0x1p-1074}, below0 | 2},
	}
	for _, c := range cases {
		if sum, code := impl.SumOfPrices(c.list); code != impl.OK || bits(sum) != c.want {
			t.Errorf("SumOfPrices of %s = %v (%x), %d, not %x", showFloats(c.list), sum, bits(sum), code, c.want)
		}
	}
	for _, one := range otherNaNBits() {
		if sum, code := impl.SumOfPrices([]float64{1, math.Float64frombits(one), 2}); code != impl.OK || !math.IsNaN(sum) {
			t.Errorf("SumOfPrices with the NaN of bits %x = %v, %d", one, sum, code)
		}
	}
}

// TestPromise14LongLists has lists of as many floats as may be, and of more: what is too long counts ahead of there being none.
func TestPromise14LongLists(t *testing.T) {
	for _, x := range []float64{0, minusNought, 0.25, -4, 0.1, math.NaN(), math.Inf(1), math.Inf(-1), math.MaxFloat64} {
		for _, count := range []int{impl.MaxList - 1, impl.MaxList, impl.MaxList + 1, impl.MaxList + 2, 3 * impl.MaxList, impl.MaxText + 1} {
			list := slices.Repeat([]float64{x}, count)
			checkFloats(t, fmt.Sprint("all alike, ", x), list)
			list[count-1], list[0] = 0.75, -0.75
			checkFloats(t, fmt.Sprint("all alike but two, ", x), list)
		}
	}
	list := slices.Repeat([]float64{math.NaN()}, impl.MaxList+1)
	if k, code := impl.KindsOf(list); code != impl.ErrLong || k != (impl.Kinds{}) {
		t.Errorf("KindsOf = %+v, %d", k, code)
	}
	if least, greatest, code := impl.RangeOf(list); code != impl.ErrLong || !sameFloat(least, 0) || !sameFloat(greatest, 0) {
		t.Errorf("RangeOf = %v, %v, %d", least, greatest, code)
	}
	if sum, code := impl.SumOfPrices(list); code != impl.ErrLong || !sameFloat(sum, 0) {
		t.Errorf("SumOfPrices = %v, %d", sum, code)
	}
}

// pickFloat is a price, an edge, or a float of any bits.
func pickFloat(p *picker) float64 {
	edges := edgeFloats()
	switch p.below(4) {
	case 0:
		return float64(1+p.below(impl.MaxTicks)) / 4
	case 1:
		return edges[p.below(len(edges))]
	case 2:
		return math.Float64frombits(p.next())
	}
	return float64(int(p.next())>>p.below(64)) / 100
}

func TestPromise14AnyFloats(t *testing.T) {
	p := picker{135}
	for range 6000 {
		list := make([]float64, p.below(12))
		for i := range list {
			list[i] = pickFloat(&p)
		}
		checkFloats(t, "any floats", list)
	}
	for range 10 {
		list := make([]float64, impl.MaxList-p.below(2))
		for i := range list {
			list[i] = float64(1+p.below(impl.MaxTicks)) / 4 * float64(1+p.below(1000)) / 7
		}
		checkFloats(t, "many floats", list)
	}
}
