package tests

import (
	"bytes"
	"fmt"
	"slices"
	"testing"

	"loop.example/g00092/impl"
)

// tapeAsks are the calls of chapter 7 on bytes.
func tapeAsks(b []byte) []ask {
	return []ask{
		{"Judge", func() string { return fmt.Sprintln(impl.Judge(b)) }},
		{"Extract", func() string {
			list, code := impl.Extract(b)
			return fmt.Sprintln(listText(list, cmdText), code)
		}},
		{"Peak", func() string { return fmt.Sprintln(impl.Peak(b)) }},
	}
}

// frameAsks are the calls of chapter 7 that make frames.
func frameAsks(group []impl.Event, totals impl.Totals, sum int) []ask {
	return []ask{
		{"GroupFrame", func() string { return fmt.Sprintln(impl.GroupFrame(group, sum)) }},
		{"EndFrame", func() string { return fmt.Sprintln(impl.EndFrame(totals, sum)) }},
	}
}

// someTapes are lawful ones, others that are unlawful in many ways, and bytes that are too long.
func someTapes() [][]byte {
	p := picker{121}
	tape := wantTape(smallScript())
	out := [][]byte{nil, {}, []byte("TJ"), []byte("TJ1"), tape, tape[:len(tape)-1], append(bytes.Clone(tape), 0), wantTape(nil)}
	for _, list := range [][]impl.Cmd{toldScript(), pickScript(&p, 40), pickScript(&p, impl.MaxCmds)} {
		out = append(out, wantTape(list))
	}
	ahead := framesOf(wantRun(brokenScript()))
	for i, one := range brokenGroups() {
		out = append(out, tapeBytes(append(slices.Clone(ahead[:i%len(ahead)]), groupFrame(one.group...))...))
	}
	for range 40 {
		wrong := bytes.Clone(tape)
		wrong[p.below(len(wrong))]++
		out = append(out, wrong, mendSums(wrong), wrong[:p.below(len(wrong))])
	}
	return append(out, tapeBytes(manyFrames(201)...), tapeBytes(tapeFrame{'G', make([]byte, 8192)}), make([]byte, impl.MaxText), make([]byte, impl.MaxText+1))
}

// frameSample is what the calls that make frames are given.
type frameSample struct {
	group  []impl.Event
	totals impl.Totals
	sum    int
}

func frameSamples() []frameSample {
	right, wrong := rightEvents(), wrongEvents()
	var out []frameSample
	for i, sum := range someSums {
		totals := impl.Totals{Groups: i, Notional: sum, Left: -i}
		out = append(out,
			frameSample{nil, totals, sum},
			frameSample{right[i : 9*i], totals, sum},
			frameSample{append(slices.Clone(right[:i]), wrong[i]), totals, sum},
			frameSample{slices.Repeat(right[:1], 8192/len(wantBytes(right[0]))+i%2), totals, sum})
	}
	return append(out, frameSample{make([]impl.Event, impl.MaxList), impl.Totals{}, 0}, frameSample{make([]impl.Event, impl.MaxList+1), impl.Totals{}, 0})
}

func TestPromise1TapesStay(t *testing.T) {
	for _, b := range someTapes() {
		g := guard(b)
		for _, a := range tapeAsks(g.part) {
			a.call()
			g.check(t, a.name)
		}
	}
}

// TestPromise1FramesLeaveGroups lays events into the middle of greater lists.
func TestPromise1FramesLeaveGroups(t *testing.T) {
	edge := impl.Event{Kind: -7, Cmd: impl.Cmd{Tag: "an edge that is longer than a Tag"}}
	for _, one := range frameSamples() {
		whole := append(append([]impl.Event{edge, edge}, one.group...), edge, edge)
		was := groupText(whole)
		for _, a := range frameAsks(whole[2:2+len(one.group)], one.totals, one.sum) {
			a.call()
			if groupText(whole) != was {
				t.Fatalf("%s wrote into its group or around it, of%s", a.name, showGroup(one.group))
			}
		}
	}
}

// TestPromise1NewTapes spoils what was answered, and what was given, and asks whether it shows in the other.
func TestPromise1NewTapes(t *testing.T) {
	for _, list := range someCmds() {
		given := append(make([]impl.Cmd, 0, len(list)+3), list...)
		was := listText(given[:cap(given)], cmdText)
		one, _ := impl.TapeOf(given)
		two, _ := impl.TapeOf(given)
		want := bytes.Clone(one)
		fill(one, 0xA5)
		if listText(given[:cap(given)], cmdText) != was || !bytes.Equal(two, want) {
			t.Fatal("a tape shares memory with its script or another tape")
		}
		fill(given, impl.Cmd{Kind: -9, Tag: "spoiled"})
		if !bytes.Equal(two, want) {
			t.Fatal("a tape shares memory with its script")
		}
	}
	for _, tape := range someTapes() {
		given := append(make([]byte, 0, len(tape)+3), tape...)
		one, _ := impl.Extract(given)
		two, _ := impl.Extract(given)
		want := listText(two, cmdText)
		fill(one, impl.Cmd{Kind: -9, Tag: "spoiled"})
		if !bytes.Equal(given, tape) || listText(two, cmdText) != want {
			t.Fatal("a script shares memory with its tape or another script")
		}
		fill(given, 0xA5)
		if listText(two, cmdText) != want {
			t.Fatal("a script shares memory with its tape")
		}
	}
}

func TestPromise1NewFrames(t *testing.T) {
	for _, one := range frameSamples() {
		given := append(make([]impl.Event, 0, len(one.group)+3), one.group...)
		first, _, _ := impl.GroupFrame(given, one.sum)
		second, _, _ := impl.GroupFrame(given, one.sum)
		end, _, _ := impl.EndFrame(one.totals, one.sum)
		other, _, _ := impl.EndFrame(one.totals, one.sum)
		want, wantEnd := bytes.Clone(first), bytes.Clone(end)
		fill(first, 0xA5)
		fill(end, 0xA5)
		if !sameEvents(given, one.group) || !bytes.Equal(second, want) || !bytes.Equal(other, wantEnd) {
			t.Fatalf("a frame shares memory with its group or another frame, of%s", showGroup(one.group))
		}
		fill(given, impl.Event{Kind: -9})
		if !bytes.Equal(second, want) {
			t.Fatalf("a frame shares memory with its group, of%s", showGroup(one.group))
		}
	}
}

// TestPromise1WhateverFrame has events and totals of any numbers at all.
func TestPromise1WhateverFrame(t *testing.T) {
	p := picker{122}
	n := func() int { return int(p.next()) >> p.below(64) }
	for range 4000 {
		var group []impl.Event
		for range p.below(5) {
			e := impl.Event{Kind: p.below(kindsOfEvents + 3), Cmd: anyCmd(&p)}
			if p.below(3) > 0 {
				e = fullEvent(1 + p.below(kindsOfEvents))
			}
			for _, name := range wholeFields {
				if tells(e.Kind, name) || p.below(40) == 0 {
					*field(&e, name) = n()
				}
			}
			group = append(group, e)
		}
		checkGroupFrame(t, "whatever group", group, n())
		checkGroupFrame(t, "whatever group", group, p.below(impl.MaxSum))
	}
}
