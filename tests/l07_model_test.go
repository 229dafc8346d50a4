package tests

import (
	"fmt"
	"math"
	"math/big"
	"slices"
	"testing"

	"loop.example/g00092/impl"
)

// wantVwap works each step out with as many bits as it needs, and rounds it to those of a float.
func wantVwap(notional, volume int) float64 {
	if volume == 0 && notional == 0 {
		return math.NaN()
	}
	if volume == 0 {
		return math.Inf(1)
	}
	rounded := func() *big.Float { return new(big.Float).SetPrec(53) }
	quarter := rounded().Quo(rounded().SetInt64(int64(notional)), rounded().SetInt64(4))
	out, _ := rounded().Quo(quarter, rounded().SetInt64(int64(volume))).Float64()
	return out
}

// nearest is the float nearest to a fraction.
func nearest(over, under int) float64 {
	out, _ := big.NewRat(int64(over), int64(under)).Float64()
	return out
}

func leftOfAll(list []impl.Order) int {
	left := 0
	for _, o := range list {
		left += o.Left
	}
	return left
}

// wantFigures is chapter 8 in fractions, which a float of such numbers holds or is nearest to.
func wantFigures(t impl.Totals, b impl.Book) (impl.Figures, int) {
	if !wantBookOK(b) || t.Volume < 0 || t.Notional < 0 {
		return impl.Figures{}, impl.ErrBad
	}
	out := impl.Figures{Vwap: wantVwap(t.Notional, t.Volume), Mid: math.NaN(), Spread: math.Inf(1), Tilt: math.NaN()}
	buy, sell := wantQueue(b, impl.SdBuy), wantQueue(b, impl.SdSell)
	if len(buy) > 0 && len(sell) > 0 {
		out.Mid = nearest(buy[0].Ticks+sell[0].Ticks, 8)
		out.Spread = nearest(sell[0].Ticks-buy[0].Ticks, 4)
	}
	if bought, sold := leftOfAll(buy), leftOfAll(sell); bought+sold > 0 {
		out.Tilt = nearest(bought-sold, bought+sold)
	}
	return out, impl.OK
}

func sameFigures(f, g impl.Figures) bool {
	return sameFloat(f.Vwap, g.Vwap) && sameFloat(f.Mid, g.Mid) && sameFloat(f.Spread, g.Spread) && sameFloat(f.Tilt, g.Tilt)
}

func figuresText(f impl.Figures) string {
	return fmt.Sprintf("{vwap %v %s mid %v %s spread %v %s tilt %v %s}", f.Vwap, floatText(f.Vwap), f.Mid, floatText(f.Mid), f.Spread, floatText(f.Spread), f.Tilt, floatText(f.Tilt))
}

func checkFigures(t *testing.T, name string, totals impl.Totals, b impl.Book) {
	t.Helper()
	want, wantCode := wantFigures(totals, b)
	got, code := impl.FiguresOf(totals, b)
	if code != wantCode || !sameFigures(got, want) {
		t.Fatalf("%s: FiguresOf = %s, %d, not %s, %d, of %+v and %s", name, figuresText(got), code, figuresText(want), wantCode, totals, showBook(b))
	}
}

// The kinds of floats, as the fields of Kinds stand.
const (
	missingKind = iota
	highKind
	lowKind
	noughtKind
	minusKind
	rightKind
	otherKind
	kindsOfFloats
)

// kindOfFloat is chapter 8's sentence, with fractions.
func kindOfFloat(x float64) int {
	switch {
	case x != x:
		return missingKind
	case x > math.MaxFloat64:
		return highKind
	case x < -math.MaxFloat64:
		return lowKind
	case x == 0 && 1/x > 0:
		return noughtKind
	case x == 0:
		return minusKind
	}
	quarters := new(big.Rat).SetFloat64(x)
	quarters.Mul(quarters, big.NewRat(4, 1))
	if quarters.IsInt() && quarters.Sign() > 0 && quarters.Cmp(big.NewRat(1000000, 1)) <= 0 {
		return rightKind
	}
	return otherKind
}

func kindsWith(counts [kindsOfFloats]int) impl.Kinds {
	return impl.Kinds{Missing: counts[missingKind], High: counts[highKind], Low: counts[lowKind], Nought: counts[noughtKind], Minus: counts[minusKind], Right: counts[rightKind], Other: counts[otherKind]}
}

func wantKinds(list []float64) (impl.Kinds, int) {
	if len(list) > 4096 {
		return impl.Kinds{}, impl.ErrLong
	}
	var counts [kindsOfFloats]int
	for _, x := range list {
		counts[kindOfFloat(x)]++
	}
	return kindsWith(counts), impl.OK
}

// isLess puts -0 ahead of +0.
func isLess(x, y float64) bool {
	return x < y || x == y && math.Signbit(x) && !math.Signbit(y)
}

// wantRange sorts all of a list.
func wantRange(list []float64) (float64, float64, int) {
	if len(list) > 4096 {
		return 0, 0, impl.ErrLong
	}
	sorted := slices.DeleteFunc(slices.Clone(list), math.IsNaN)
	if len(sorted) == 0 {
		return 0, 0, impl.ErrNone
	}
	slices.SortFunc(sorted, func(x, y float64) int {
		switch {
		case isLess(x, y):
			return -1
		case isLess(y, x):
			return 1
		}
		return 0
	})
	return sorted[0], sorted[len(sorted)-1], impl.OK
}

// wantAdded adds two floats exactly and rounds then.
func wantAdded(x, y float64) float64 {
	if math.IsNaN(x) || math.IsNaN(y) || math.IsInf(x, 1) && math.IsInf(y, -1) || math.IsInf(x, -1) && math.IsInf(y, 1) {
		return math.NaN()
	}
	exact := func(x float64) *big.Float { return new(big.Float).SetPrec(2200).SetFloat64(x) }
	out, _ := exact(0).Add(exact(x), exact(y)).Float64()
	return out
}

func wantSumOfPrices(list []float64) (float64, int) {
	if len(list) > 4096 {
		return 0, impl.ErrLong
	}
	sum := 0.0
	for _, x := range list {
		sum = wantAdded(sum, x)
	}
	return sum, impl.OK
}

// showFloats keeps failures readable, however long a list is.
func showFloats(list []float64) string {
	if len(list) > 40 {
		return fmt.Sprintf("%d floats %v ..", len(list), list[:40])
	}
	return fmt.Sprintf("%d floats %v", len(list), list)
}

// checkFloats asks all of chapter 8 of a list.
func checkFloats(t *testing.T, name string, list []float64) {
	t.Helper()
	wantK, wantCode := wantKinds(list)
	if k, code := impl.KindsOf(list); k != wantK || code != wantCode {
		t.Fatalf("%s: KindsOf = %+v, %d, not %+v, %d, of %s", name, k, code, wantK, wantCode, showFloats(list))
	}
	wantLeast, wantGreatest, wantCode := wantRange(list)
	if least, greatest, code := impl.RangeOf(list); !sameFloat(least, wantLeast) || !sameFloat(greatest, wantGreatest) || code != wantCode {
		t.Fatalf("%s: RangeOf = %v, %v, %d, not %v, %v, %d, of %s", name, least, greatest, code, wantLeast, wantGreatest, wantCode, showFloats(list))
	}
	wantS, wantCode := wantSumOfPrices(list)
	if sum, code := impl.SumOfPrices(list); !sameFloat(sum, wantS) || code != wantCode {
		t.Fatalf("%s: SumOfPrices = %v, %d, not %v, %d, of %s", name, sum, code, wantS, wantCode, showFloats(list))
	}
}
