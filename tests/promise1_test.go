package tests

import (
	"bytes"
	"fmt"
	"math"
	"strings"
	"sync"
	"testing"

	"loop.example/g00092/impl"
)

// ask is one call, with what it answers as a text: alike answers are alike texts.
type ask struct {
	name string
	call func() string
}

func floatText(x float64) string {
	if math.IsNaN(x) {
		return "NaN"
	}
	return fmt.Sprintf("%016x", math.Float64bits(x))
}

// bytesAsks are the calls of chapters 1 and 2 on bytes and a place.
func bytesAsks(b []byte, at int) []ask {
	return []ask{
		{"GetNumber", func() string { return fmt.Sprintln(impl.GetNumber(b, at)) }},
		{"GetFloat", func() string {
			x, next, code := impl.GetFloat(b, at)
			return fmt.Sprintln(floatText(x), next, code)
		}},
		{"GetText", func() string {
			s, next, code := impl.GetText(b, at)
			return fmt.Sprintf("%q %d %d", s, next, code)
		}},
		{"SumOf", func() string { return fmt.Sprintln(impl.SumOf(b, at)) }},
	}
}

func valueAsks() []ask {
	var out []ask
	for _, n := range edgeNumbers() {
		out = append(out,
			ask{"PutNumber", func() string { return fmt.Sprintln(impl.PutNumber(n)) }},
			ask{"CodeWord", func() string { return fmt.Sprintf("%q", impl.CodeWord(n)) }})
	}
	for _, x := range append(edgeFloats(), math.NaN(), 0.5, 250000.25) {
		out = append(out,
			ask{"PutFloat", func() string { return fmt.Sprintln(impl.PutFloat(x)) }},
			ask{"Ticks", func() string { return fmt.Sprintln(impl.Ticks(x)) }})
	}
	for _, s := range append([]string{"", "a", "9", "\x00", someText(12), someText(13), someText(14), someText(impl.MaxText), someText(impl.MaxText + 1)}, words...) {
		out = append(out,
			ask{"PutText", func() string { return fmt.Sprintln(impl.PutText(s)) }},
			ask{"NameOK", func() string { return fmt.Sprintln(impl.NameOK(s)) }},
			ask{"CodeOf", func() string { return fmt.Sprintln(impl.CodeOf(s)) }})
	}
	return out
}

func someAsks() []ask {
	out := valueAsks()
	p := picker{6}
	for n := range 24 {
		b := p.bytes(n)
		for at := -2; at <= n+2; at++ {
			out = append(out, bytesAsks(b, at)...)
		}
		out = append(out, bytesAsks(b, leastInt)...)
		out = append(out, bytesAsks(b, greatestInt)...)
	}
	return append(out, bytesAsks(make([]byte, impl.MaxText+1), 0)...)
}

func TestPromise1AlikeAnswers(t *testing.T) {
	asks := someAsks()
	first := make([]string, len(asks))
	for i, a := range asks {
		first[i] = a.call()
	}
	// In other orders, so that each call stands behind other ones.
	for i := len(asks) - 1; i >= 0; i-- {
		if got := asks[i].call(); got != first[i] {
			t.Errorf("%s answered %q, then %q", asks[i].name, first[i], got)
		}
	}
	p := picker{7}
	for range 2 * len(asks) {
		i := p.below(len(asks))
		if got := asks[i].call(); got != first[i] {
			t.Errorf("%s answered %q, then %q", asks[i].name, first[i], got)
		}
	}
}

func TestPromise1CallsSideBySide(t *testing.T) {
	asks := someAsks()
	first := make([]string, len(asks))
	for i, a := range asks {
		first[i] = a.call()
	}
	var done sync.WaitGroup
	for worker := range 8 {
		done.Go(func() {
			for k := range asks {
				i := (k + worker*len(asks)/8) % len(asks)
				if got := asks[i].call(); got != first[i] {
					t.Errorf("%s answered %q, then %q beside others", asks[i].name, first[i], got)
				}
			}
		})
	}
	done.Wait()
}

func TestPromise1ArgumentsStay(t *testing.T) {
	samples := [][]byte{nil, {0}, {128}, {128, 0}, {255, 255, 255, 255, 255, 255, 255, 255, 255, 2}, make([]byte, impl.MaxText), make([]byte, impl.MaxText+1)}
	for _, n := range edgeNumbers() {
		samples = append(samples, impl.PutNumber(n))
	}
	for _, x := range edgeFloats() {
		samples = append(samples, impl.PutFloat(x))
	}
	for n := range 20 {
		samples = append(samples, impl.PutText(someText(n)))
	}
	for _, b := range samples {
		g := guard(b)
		for _, at := range []int{-1, 0, 1, 2, len(b) - 1, len(b), len(b) + 1} {
			for _, a := range bytesAsks(g.part, at) {
				a.call()
				g.check(t, a.name)
			}
		}
	}
}

// TestPromise1NewMemory spoils what was answered and what was given, and asks whether it shows.
func TestPromise1NewMemory(t *testing.T) {
	var puts []ask
	spoil := func(b []byte) string {
		was := string(b)
		whole := b[:cap(b)]
		for i := range whole {
			whole[i] ^= 0xFF
		}
		return was
	}
	for _, n := range []int{0, 5, -5, 64, leastInt, greatestInt} {
		puts = append(puts, ask{"PutNumber", func() string { return spoil(impl.PutNumber(n)) }})
	}
	for _, x := range []float64{0, math.Copysign(0, -1), 1.5, math.NaN(), math.Inf(1)} {
		puts = append(puts, ask{"PutFloat", func() string { return spoil(impl.PutFloat(x)) }})
	}
	for _, s := range []string{"", "abc", someText(12), someText(13), strings.Repeat("x", impl.MaxText)} {
		puts = append(puts, ask{"PutText", func() string { return spoil(impl.PutText(s)) }})
	}
	for _, p := range puts {
		if one, two := p.call(), p.call(); one != two {
			t.Errorf("%s answered %q, then %q: it keeps the memory of its answers", p.name, one, two)
		}
	}
	held, again := impl.PutText("held"), impl.PutText("held")
	held[1] = 'X'
	if string(again) != "\x08held" {
		t.Error("two answers share memory")
	}
	b := []byte("\x06abc")
	s, _, _ := impl.GetText(b, 0)
	copy(b, bytes.Repeat([]byte{0}, len(b)))
	if s != "abc" {
		t.Errorf("a text that was read became %q with the bytes that it was read from", s)
	}
}

func TestPromise1WhateverIsGiven(t *testing.T) {
	p := picker{8}
	for range 30000 {
		b := p.bytes(p.below(30))
		at := p.below(len(b)+7) - 3
		got, zero := readings(b, at)
		for i, r := range got {
			inside := at >= 0 && at <= len(b)
			switch {
			case r.code == impl.OK && inside && r.next > at && r.next <= len(b):
			case r.code == impl.ErrForm && inside && r.next == 0:
			case r.code == impl.ErrRange && !inside && r.next == 0 && zero:
			default:
				t.Fatalf("reading %d of %v at %d: %v", i, b, at, r)
			}
		}
		impl.SumOf(b, int(p.next()))
		impl.Ticks(math.Float64frombits(p.next()))
		impl.CodeWord(int(p.next()))
		impl.CodeOf(string(b))
		impl.NameOK(string(b))
	}
}
