package tests

import (
	"fmt"
	"math"
	"slices"
	"testing"

	"loop.example/g00092/impl"
)

// figuresAsks are the calls of chapter 8 on totals and a book.
func figuresAsks(totals impl.Totals, b impl.Book) []ask {
	return []ask{{"FiguresOf", func() string {
		f, code := impl.FiguresOf(totals, b)
		return fmt.Sprintln(figuresText(f), code)
	}}}
}

// floatsAsks are the calls of chapter 8 on floats.
func floatsAsks(list []float64) []ask {
	return []ask{
		{"KindsOf", func() string { return fmt.Sprintln(impl.KindsOf(list)) }},
		{"RangeOf", func() string {
			least, greatest, code := impl.RangeOf(list)
			return fmt.Sprintln(floatText(least), floatText(greatest), code)
		}},
		{"SumOfPrices", func() string {
			sum, code := impl.SumOfPrices(list)
			return fmt.Sprintln(floatText(sum), code)
		}},
	}
}

// someTotals are right and wrong ones.
func someTotals() []impl.Totals {
	return []impl.Totals{{}, {Volume: 4, Notional: 1602}, {Volume: 3}, {Notional: 1}, {Volume: greatestInt, Notional: greatestInt}, {Volume: -1}, {Notional: leastInt}, withTotals(-1, 7, 1<<53+1)}
}

// someFloats are lists of all kinds of floats, none at all and too many among them.
func someFloats() [][]float64 {
	p := picker{136}
	out := [][]float64{nil, {}, {math.NaN()}, {minusNought}, {0, minusNought}, {math.Inf(1), math.Inf(-1)}, edgeFloats(), edgePrices()}
	for range 20 {
		list := make([]float64, p.below(30))
		for i := range list {
			list[i] = pickFloat(&p)
		}
		out = append(out, list)
	}
	return append(out, slices.Repeat([]float64{0.1}, impl.MaxList), slices.Repeat([]float64{0.1}, impl.MaxList+1))
}

// TestPromise1FloatsStay lays floats into the middle of greater lists.
func TestPromise1FloatsStay(t *testing.T) {
	for _, list := range someFloats() {
		whole := append(append([]float64{-7.5, minusNought}, list...), minusNought, -7.5)
		was := floatBitsOf(whole)
		for _, a := range floatsAsks(whole[2 : 2+len(list)]) {
			a.call()
			if !slices.Equal(floatBitsOf(whole), was) {
				t.Errorf("%s wrote into its list or around it, of %s", a.name, showFloats(list))
			}
		}
	}
}

// floatBitsOf tells NaNs apart: what was written over shows.
func floatBitsOf(list []float64) []uint64 {
	out := make([]uint64, len(list))
	for i, x := range list {
		out[i] = math.Float64bits(x)
	}
	return out
}

// TestPromise1FiguresLeaveBooks lays the orders of books into the middle of greater lists.
func TestPromise1FiguresLeaveBooks(t *testing.T) {
	totals := someTotals()
	for i, b := range someBooks() {
		edge := impl.Order{Id: -7, Tag: "an edge that is longer than a Tag"}
		whole := append(append([]impl.Order{edge, edge}, b.Orders...), edge, edge)
		was := listText(whole, orderText)
		b.Orders = whole[2 : 2+len(b.Orders)]
		for _, a := range figuresAsks(totals[i%len(totals)], b) {
			a.call()
			if listText(whole, orderText) != was {
				t.Fatalf("%s wrote into the orders of a book or around them", a.name)
			}
		}
	}
}

// TestPromise1WhateverFigures has totals and books of any numbers at all.
func TestPromise1WhateverFigures(t *testing.T) {
	p := picker{137}
	n := func() int { return int(p.next()) >> p.below(64) }
	for range 20000 {
		totals := impl.Totals{Groups: n(), Accepted: n(), Refused: n(), Trades: n(), Volume: n(), Notional: n(), Live: n(), Left: n()}
		b := pickBook(&p)
		switch p.below(3) {
		case 0:
			b = spoilBook(&p, b)
		case 1:
			b.Orders = append(b.Orders, anyOrder(&p))
		}
		checkFigures(t, "whatever figures", totals, b)
	}
}
