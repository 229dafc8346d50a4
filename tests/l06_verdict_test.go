package tests

import (
	"bytes"
	"fmt"
	"runtime"
	"slices"
	"testing"
	"time"

	"loop.example/g00092/impl"
)

// brokenGroup is a group with the event that breaks a rule: the one behind the last where the group is short.
type brokenGroup struct {
	name  string
	group []impl.Event
	event int
	rule  int
}

// brokenScript leads to a book with orders on both sides, two of them of a day; the next Id is 6.
func brokenScript() []impl.Cmd {
	ofDay := func(c impl.Cmd) impl.Cmd {
		c.Life = impl.LfDay
		return c
	}
	return []impl.Cmd{
		newCmd(2, impl.TyLimit, 5, 401), ofDay(newCmd(2, impl.TyPost, 4, 400)), newCmd(2, impl.TyLimit, 3, 401),
		ofDay(newCmd(1, impl.TyLimit, 7, 390)), newCmd(1, impl.TyPost, 2, 391),
	}
}

// brokenGroups have each rule of chapter 6, behind brokenScript: of a first event and of later ones.
func brokenGroups() []brokenGroup {
	buy := newCmd(1, impl.TyLimit, 20, 401)
	ioc := newCmd(1, impl.TyIoc, 20, 401)
	post := newCmd(1, impl.TyPost, 2, 399)
	end := short(impl.EvDayEnd, 0, 2)
	trades := []impl.Event{trade(6, 2, 4, 400), trade(6, 1, 5, 401), trade(6, 3, 3, 401)}
	taken := slices.Concat([]impl.Event{accept(6, buy)}, trades)
	whole := slices.Concat(taken, []impl.Event{short(impl.EvRest, 6, 8)})
	dropped := slices.Concat([]impl.Event{accept(6, ioc)}, trades)
	day := []impl.Event{end, short(impl.EvExpire, 2, 4), short(impl.EvExpire, 4, 7)}
	with := func(group []impl.Event, more ...impl.Event) []impl.Event { return slices.Concat(group, more) }
	return []brokenGroup{
		{"begins with a trade", []impl.Event{trades[0]}, 0, impl.RuStart},
		{"begins with what is left", []impl.Event{short(impl.EvRest, 6, 8)}, 0, impl.RuStart},
		{"begins with an expiry", day[1:], 0, impl.RuStart},
		{"another Reason", []impl.Event{refuse(cancelCmd(9), impl.RfMore)}, 0, impl.RuReason},
		{"refused without a reason", []impl.Event{refuse(buy, impl.RfFull)}, 0, impl.RuReason},
		{"a post that would trade", []impl.Event{accept(6, newCmd(1, impl.TyPost, 1, 400))}, 0, impl.RuAccept},
		{"a cancel of no order", []impl.Event{short(impl.EvCancel, 6, 1)}, 0, impl.RuAccept},
		{"a reduce of nothing", []impl.Event{short(impl.EvReduce, 1, 5)}, 0, impl.RuAccept},
		{"an Id that was", []impl.Event{accept(5, post), short(impl.EvRest, 5, 2)}, 0, impl.RuId},
		{"an Id that is left out", []impl.Event{accept(7, post), short(impl.EvRest, 7, 2)}, 0, impl.RuId},
		{"a cancel of less", []impl.Event{short(impl.EvCancel, 1, 4)}, 0, impl.RuCount},
		{"a day's end of fewer", []impl.Event{short(impl.EvDayEnd, 0, 1), day[1]}, 0, impl.RuCount},
		{"two accepts", with(taken[:1], accept(7, buy)), 1, impl.RuStart},
		{"a cancel within", with(taken[:2], short(impl.EvCancel, 1, 5)), 2, impl.RuStart},
		{"two days' ends", []impl.Event{end, end}, 1, impl.RuStart},
		{"more behind a rest", with(whole, short(impl.EvRest, 6, 8)), 5, impl.RuOver},
		{"more behind a cancel", []impl.Event{short(impl.EvCancel, 1, 5), short(impl.EvDrop, 1, 5)}, 1, impl.RuOver},
		{"more behind a refusal", []impl.Event{refuse(cancelCmd(9), impl.RfId), trades[0]}, 1, impl.RuOver},
		{"more behind a reduce", []impl.Event{short(impl.EvReduce, 1, 4), short(impl.EvRest, 1, 4)}, 1, impl.RuOver},
		{"more behind a day", with(day, day[2]), 3, impl.RuOver},
		{"a trade where the rest is due", with(taken, trades[0]), 4, impl.RuTrade},
		{"a trade of another", with(taken[:2], trade(5, 1, 5, 401)), 2, impl.RuTrade},
		{"a trade with a younger one", with(taken[:2], trade(6, 3, 3, 401)), 2, impl.RuMaker},
		{"a trade at its own price", with(taken[:1], trade(6, 2, 4, 401)), 1, impl.RuPrice},
		{"a trade of less", with(taken[:1], trade(6, 2, 3, 400)), 1, impl.RuQty},
		{"a trade of more", with(taken[:1], trade(6, 2, 5, 400)), 1, impl.RuQty},
		{"a rest ahead of its trades", with(taken[:1], short(impl.EvRest, 6, 20)), 1, impl.RuRest},
		{"a rest of less", with(taken, short(impl.EvRest, 6, 7)), 4, impl.RuRest},
		{"a drop of what rests", with(taken, short(impl.EvDrop, 6, 8)), 4, impl.RuRest},
		{"a rest of what is dropped", with(dropped, short(impl.EvRest, 6, 8)), 4, impl.RuRest},
		{"an expiry of what rests", with(taken, short(impl.EvExpire, 6, 8)), 4, impl.RuExpire},
		{"the second expiry first", []impl.Event{end, day[2], day[1]}, 1, impl.RuExpire},
		{"an expiry of less", with(day[:2], short(impl.EvExpire, 4, 6)), 2, impl.RuExpire},
		{"a trade where an expiry is due", with(day[:1], trades[0]), 1, impl.RuExpire},
		{"no event", nil, 0, impl.RuShort},
		{"an accept alone", taken[:1], 1, impl.RuShort},
		{"a trade that is left out", taken[:3], 3, impl.RuShort},
		{"a rest that is left out", taken, 4, impl.RuShort},
		{"a drop that is left out", dropped, 4, impl.RuShort},
		{"a day's end alone", day[:1], 1, impl.RuShort},
		{"a day with one expiry", day[:2], 2, impl.RuShort},
	}
}

// checkBehind asks that a verdict of a whole frame stays whatever stands behind that frame.
func checkBehind(t *testing.T, name string, b []byte, want impl.Verdict) {
	t.Helper()
	p := picker{111}
	for _, behind := range [][]byte{nil, {0}, {71}, {69, 0}, wantTape(smallScript()), wantTape(nil)[3:], p.bytes(40), make([]byte, 3000)} {
		wantVerdict(t, name, slices.Concat(b, behind), want.At, want.Rule)
	}
}

func TestJudgeBrokenGroups(t *testing.T) {
	ahead := framesOf(wantRun(brokenScript()))
	ahead = ahead[:len(ahead)-1]
	seen := map[int]int{}
	for _, one := range brokenGroups() {
		f := groupFrame(one.group...)
		b, places := layTape(append(slices.Clone(ahead), f)...)
		at := payloadPlace(places[len(ahead)], f) + eventsIn(one.group)[one.event]
		checkBehind(t, one.name, b, impl.Verdict{At: at, Rule: one.rule})
		b = endedTape(append(slices.Clone(ahead), f)...)
		wantVerdict(t, one.name+", and an end", b, at, one.rule)
		if one.rule == impl.RuShort || len(one.group) == 0 {
			seen[one.rule]++
			continue
		}
		// More events in the frame, and bytes that are none's, change nothing.
		for _, more := range [][]byte{wantBytes(one.group[0]), {255}, {0, 0, 0}} {
			longer := tapeFrame{'G', slices.Concat(f.payload, more)}
			b, places := layTape(append(slices.Clone(ahead), longer)...)
			wantVerdict(t, one.name+", and more", b, payloadPlace(places[len(ahead)], longer)+eventsIn(one.group)[one.event], one.rule)
		}
		seen[one.rule]++
	}
	for rule := impl.RuStart; rule <= impl.RuShort; rule++ {
		if seen[rule] == 0 {
			t.Errorf("no group breaks rule %d: the test asks too little", rule)
		}
	}
}

// TestJudgeFirstFrames has groups that break rules on the empty book.
func TestJudgeFirstFrames(t *testing.T) {
	for kind := 1; kind <= kindsOfEvents; kind++ {
		for _, e := range []impl.Event{plainEvent(kind), fullEvent(kind)} {
			for _, group := range [][]impl.Event{{e}, {e, e}, {short(impl.EvDayEnd, 0, 0), e}} {
				checkTape(t, "a first group", endedTape(groupFrame(group...)))
			}
		}
	}
	wantVerdict(t, "a trade", tapeBytes(groupFrame(trade(1, 1, 1, 1))), 5, impl.RuStart)
	wantVerdict(t, "an Id", tapeBytes(groupFrame(accept(2, newCmd(1, impl.TyIoc, 1, 4)), short(impl.EvDrop, 2, 1))), 5, impl.RuId)
	wantVerdict(t, "an Id", tapeBytes(groupFrame(accept(0, newCmd(1, impl.TyIoc, 1, 4)))), 5, impl.RuId)
	wantVerdict(t, "a cancel", tapeBytes(groupFrame(short(impl.EvCancel, 1, 1))), 5, impl.RuAccept)
	wantVerdict(t, "an empty group", tapeBytes(tapeFrame{'G', nil}), 5, impl.RuShort)
	wantLawful(t, "a day's end", endedTape(groupFrame(short(impl.EvDayEnd, 0, 0))))
	wantLawful(t, "a drop", endedTape(groupFrame(accept(1, newCmd(1, impl.TyIoc, 1, 4)), short(impl.EvDrop, 1, 1))))
}

// manyFrames are so many groups that are lawful on the empty book.
func manyFrames(n int) []tapeFrame {
	return slices.Repeat([]tapeFrame{groupFrame(short(impl.EvDayEnd, 0, 0))}, n)
}

// TestJudgeHowMany goes over MaxCmds frames G, the next one right and wrong in other ways.
func TestJudgeHowMany(t *testing.T) {
	for _, n := range []int{0, 1, 2, 199, 200} {
		wantLawful(t, "so many", endedTape(manyFrames(n)...))
		b := tapeBytes(manyFrames(n)...)
		wantVerdict(t, "so many without an end", b, len(b), impl.RuFrame)
	}
	full, sum := layAndSum(manyFrames(200)...)
	for _, n := range []int{201, 202, 250} {
		checkBehind(t, "too many", tapeBytes(manyFrames(n)...), impl.Verdict{At: len(full), Rule: impl.RuMany})
		end := endFrame(impl.Totals{Groups: n})
		wantVerdict(t, "too many and an end", tapeBytes(append(manyFrames(n), end)...), len(full), impl.RuMany)
	}
	others := []tapeFrame{
		{'G', nil}, {'G', []byte{0}}, {'G', []byte{8}}, {'G', make([]byte, impl.MaxFrame)}, groupFrame(trade(1, 1, 1, 1)), groupFrame(short(impl.EvCancel, 1, 1)),
		groupFrame(accept(1, newCmd(1, impl.TyLimit, 1, 1))), groupFrame(short(impl.EvDayEnd, 0, 0), short(impl.EvDayEnd, 0, 0)), groupFrame(short(impl.EvDayEnd, 0, 5)),
	}
	for _, other := range others {
		checkBehind(t, "too many, and wrong", tapeBytes(append(manyFrames(200), other)...), impl.Verdict{At: len(full), Rule: impl.RuMany})
		for _, none := range noFrames(other, sum) {
			if !bytes.HasPrefix([]byte(none.name), []byte("byte")) && !bytes.HasPrefix([]byte(none.name), []byte("the mark")) {
				wantVerdict(t, "no frame behind too many", slices.Concat(full, none.frame), len(full), impl.RuFrame)
			}
		}
	}
	// The frame ahead of that still counts by its own rule.
	for _, other := range others {
		want := checkTape(t, "the last frame that may be", tapeBytes(append(manyFrames(199), other, manyFrames(1)[0])...))
		if want.Rule == impl.RuMany {
			t.Errorf("frame 200 is one too many: %+v", want)
		}
	}
	wrong := tapeBytes(append(manyFrames(200), endFrame(impl.Totals{Groups: 199}))...)
	wantVerdict(t, "totals behind MaxCmds groups", wrong, len(full)+2, impl.RuTotals)
}

// TestJudgeEnds has no frame E, two of them, and others behind it.
func TestJudgeEnds(t *testing.T) {
	frames := smallFrames()
	groups, end := frames[:len(frames)-1], frames[len(frames)-1]
	tape := tapeBytes(frames...)
	b := tapeBytes(groups...)
	wantVerdict(t, "no end", b, len(b), impl.RuFrame)
	wantVerdict(t, "two ends", tapeBytes(append(slices.Clone(frames), end)...), len(tape), impl.RuBehind)
	for _, f := range append(slices.Clone(groups), tapeFrame{'G', nil}, tapeFrame{'E', nil}, tapeFrame{'X', nil}) {
		wantVerdict(t, "a frame behind the end", tapeBytes(append(slices.Clone(frames), f)...), len(tape), impl.RuBehind)
	}
	none := endFrame(impl.Totals{})
	wantVerdict(t, "an end ahead of all", tapeBytes(append([]tapeFrame{none}, frames...)...), 15, impl.RuBehind)
	for i := 1; i < len(groups); i++ {
		early := slices.Insert(slices.Clone(frames), i, end)
		b, places := layTape(early...)
		wantVerdict(t, "an early end", b, payloadPlace(places[i], end), impl.RuTotals)
		early[i] = endFrame(wantRun(smallScript()[:i]).Totals)
		b, places = layTape(early...)
		wantVerdict(t, "an early end with its totals", b, places[i+1], impl.RuBehind)
	}
}

// TestJudgeTotals has each number one more and one less, and payloads with other bytes.
func TestJudgeTotals(t *testing.T) {
	for _, list := range [][]impl.Cmd{nil, smallScript(), toldScript()} {
		log := wantRun(list)
		frames := framesOf(log)
		groups := frames[:len(frames)-1]
		right := frames[len(frames)-1].payload
		ahead := len(tapeBytes(groups...)) + 2
		check := func(name string, payload []byte) {
			t.Helper()
			if bytes.Equal(payload, right) {
				t.Fatalf("%s: the totals are right: the test asks too little", name)
			}
			checkBehind(t, name, tapeBytes(append(slices.Clone(groups), tapeFrame{'E', payload})...), impl.Verdict{At: ahead, Rule: impl.RuTotals})
		}
		for i := range totalsFields(&log.Totals) {
			for _, more := range []int{1, -1, 64, 1 << 40, leastInt} {
				wrong := log.Totals
				*totalsFields(&wrong)[i] += more
				check(fmt.Sprintf("number %d with %d more", i, more), wantTotalsPayload(wrong))
			}
			places := totalsFields(&log.Totals)
			for k := range i {
				if *places[k] != *places[i] {
					wrong := log.Totals
					*totalsFields(&wrong)[i], *totalsFields(&wrong)[k] = *places[k], *places[i]
					check("two numbers for each other", wantTotalsPayload(wrong))
				}
			}
		}
		for at := range right {
			for _, bit := range []byte{1, 2, 128} {
				wrong := bytes.Clone(right)
				wrong[at] ^= bit
				check("a bit changed", wrong)
			}
			check("a byte less", slices.Delete(bytes.Clone(right), at, at+1))
		}
		for at := range len(right) + 1 {
			check("a byte more", slices.Insert(bytes.Clone(right), at, 0))
			check("a byte more", slices.Insert(bytes.Clone(right), at, 128))
		}
		check("nothing", nil)
		check("twice", slices.Concat(right, right))
	}
}

// TestPromise10PayloadsChanged changes each byte of each payload, with right sums, and with the totals that such groups would have: what is lawful then explains itself.
func TestPromise10PayloadsChanged(t *testing.T) {
	frames := smallFrames()
	groups := frames[:len(frames)-1]
	lawful, rules := 0, map[int]int{}
	for i, f := range groups {
		for at := range f.payload {
			for _, more := range []byte{1, 2, 4, 6, 32, 64, 128, 254, 255, byte(37*at + 11)} {
				wrong := tapeFrame{'G', bytes.Clone(f.payload)}
				wrong.payload[at] += more
				changed := withFrame(groups, i, wrong)
				verdict := checkTape(t, "a payload changed", endedTape(changed...))
				rules[verdict.Rule]++
				if verdict.Lawful {
					lawful++
				}
				checkTape(t, "a payload changed, and an end that was", tapeBytes(append(changed, frames[len(frames)-1])...))
			}
		}
	}
	if lawful < 100 || rules[impl.RuEvent] < 100 || rules[impl.RuReason] == 0 || rules[impl.RuAccept] == 0 {
		t.Errorf("%d are lawful, and %v: the test asks too little", lawful, rules)
	}
}

// TestPromise10AnyGroups has frames all right in their sums, of groups that the engine does not make.
func TestPromise10AnyGroups(t *testing.T) {
	p := picker{112}
	rules := map[int]int{}
	for range 1500 {
		list := pickScript(&p, 1+p.below(24))
		log := wantRun(list)
		at := p.below(len(list))
		b := wantRun(list[:at]).Book
		groups := cloneGroups(log.Groups)
		switch p.below(8) {
		case 0:
			groups = slices.Delete(groups, at, at+1)
		case 1:
			groups = slices.Insert(groups, at, groups[p.below(len(groups))])
		case 2:
			other := p.below(len(groups))
			groups[at], groups[other] = groups[other], groups[at]
		default:
			groups[at] = spoilGroup(&p, b, groups[at])
		}
		var frames []tapeFrame
		for _, group := range groups {
			frames = append(frames, groupFrame(group...))
		}
		rules[checkTape(t, "spoiled groups", endedTape(frames...)).Rule]++
		rules[checkTape(t, "spoiled groups, and the totals that were", tapeBytes(append(frames, endFrame(log.Totals))...)).Rule]++
	}
	for _, rule := range []int{0, 3, 4, 5, 6, 7, 8, 13, 15, 16} {
		if rules[rule] < 10 {
			t.Errorf("%v: the test asks too little of rule %d", rules, rule)
		}
	}
}

// TestPromise10AnyBytes has tapes with some bytes changed, cut and put in, and the sums made right again where frames still stand.
func TestPromise10AnyBytes(t *testing.T) {
	p := picker{113}
	for range 2500 {
		tape := wantTape(pickScript(&p, p.below(10)))
		for range 1 + p.below(3) {
			at := p.below(len(tape))
			switch p.below(3) {
			case 0:
				tape[at] += byte(1 + p.below(255))
			case 1:
				tape = slices.Insert(tape, at, byte(p.next()))
			case 2:
				tape = append(tape[:at], tape[min(len(tape), at+1+p.below(4)):]...)
			}
			if len(tape) == 0 {
				break
			}
		}
		checkTape(t, "any bytes", tape)
		checkTape(t, "any bytes, with right sums", mendSums(tape))
	}
	for range 3000 {
		checkTape(t, "whatever bytes", append([]byte("TJ1"), p.bytes(p.below(40))...))
		checkTape(t, "whatever bytes", p.bytes(p.below(40)))
	}
}

// mendSums writes the right sum behind each frame that has a mark, a number and a payload, as far as there are some.
func mendSums(tape []byte) []byte {
	out := bytes.Clone(tape)
	if len(out) < 3 {
		return out
	}
	at, sum := 3, wantSum(out[:3], 1)
	for {
		size, payloadAt, ok := wantNumberAt(out, min(at+1, len(out)))
		if !ok || size < 0 || size > 8192 || payloadAt+size+2 > len(out) {
			return out
		}
		end := payloadAt + size
		sum = wantSum(out[at:end], sum)
		out[end], out[end+1] = byte(sum/256), byte(sum%256)
		at = end + 2
	}
}

// TestPromise11WhateverIsBehind finds the least beginning of unlawful bytes that has their verdict, and lays other bytes behind it.
func TestPromise11WhateverIsBehind(t *testing.T) {
	p := picker{114}
	rules := map[int]int{}
	for range 250 {
		list := pickScript(&p, 1+p.below(8))
		log := wantRun(list)
		at := p.below(len(list))
		frames := framesOf(log)
		frames[at] = groupFrame(spoilGroup(&p, wantRun(list[:at]).Book, log.Groups[at])...)
		tape := tapeBytes(frames...)
		want, _ := impl.Judge(tape)
		if want.Lawful || want.Rule == impl.RuFrame {
			continue
		}
		rules[want.Rule]++
		least := len(tape)
		for least > 0 {
			if got, _ := impl.Judge(tape[:least-1]); got != want {
				break
			}
			least--
		}
		checkBehind(t, "whatever is behind", tape[:least], want)
	}
	if len(rules) < 8 {
		t.Errorf("%v: the test asks too little", rules)
	}
	// What is no frame by its mark or its number is none whatever comes.
	for _, one := range [][]byte{{0}, {'g'}, {'T'}, {'G', 1}, {'G', 128, 0}, {'E', 130, 128, 1}, {'E', 1}} {
		for _, ahead := range [][]byte{[]byte("TJ1"), tapeBytes(manyFrames(3)...)} {
			checkBehind(t, "no frame", slices.Concat(ahead, one), impl.Verdict{At: len(ahead), Rule: impl.RuFrame})
		}
	}
	for _, head := range []string{"T", "TJ", "TJ2", "XJ1", "tj1"} {
		wantVerdict(t, "no head", append([]byte(head), wantTape(nil)...), 0, impl.RuFrame)
	}
}

// TestPromise11AnyTapeWithoutItsEnd asks for some beginnings of any tape.
func TestPromise11AnyTapeWithoutItsEnd(t *testing.T) {
	p := picker{115}
	for range 60 {
		tape, places := layTape(framesOf(wantRun(pickScript(&p, p.below(40))))...)
		for range 20 {
			n := p.below(len(tape))
			at := 0
			for _, place := range places {
				if place <= n {
					at = place
				}
			}
			wantVerdict(t, "without its end", tape[:n], at, impl.RuFrame)
		}
	}
}

func wantPeak(t *testing.T, name string, list []impl.Cmd, wantOrders, wantLevels int) {
	t.Helper()
	tape := checkScript(t, name, list)
	if orders, levels, code := impl.Peak(tape); orders != wantOrders || levels != wantLevels || code != impl.OK {
		t.Errorf("%s: Peak = %d, %d, %d, not %d, %d", name, orders, levels, code, wantOrders, wantLevels)
	}
}

// TestPromise12Peaks has books that grow up to the limits, and shrink again.
func TestPromise12Peaks(t *testing.T) {
	wantPeak(t, "no group", nil, 0, 0)
	wantPeak(t, "no order", []impl.Cmd{{Kind: 9}, {Kind: impl.CmDayEnd}, newCmd(1, impl.TyIoc, 1, 4)}, 0, 0)
	wantPeak(t, "one order that goes", []impl.Cmd{newCmd(1, impl.TyLimit, 1, 4), cancelCmd(1)}, 1, 1)
	var many, levels []impl.Cmd
	for i := range 25 {
		many = append(many, newCmd(1, impl.TyLimit, 1, 4))
		levels = append(levels, newCmd(1+i%2, impl.TyLimit, 1, 100-i+i%2*50))
	}
	for n := range len(many) + 1 {
		wantPeak(t, "orders of one level", many[:n], min(n, 20), min(n, 1))
		wantPeak(t, "orders of a level each", levels[:n], min(n, 8), min(n, 8))
	}
	sweep := newCmd(2, impl.TyMarket, 100, 0)
	wantPeak(t, "orders that are traded away", append(slices.Clone(many), sweep, many[0]), 20, 1)
	wantPeak(t, "first orders, then levels", slices.Concat(many, []impl.Cmd{sweep}, levels), 20, 8)
	wantPeak(t, "first levels, then orders", slices.Concat(levels, []impl.Cmd{sweep}, many[:10]), 14, 8)
	wantPeak(t, "within a group only", []impl.Cmd{newCmd(2, impl.TyLimit, 1, 4), newCmd(1, impl.TyLimit, 1, 4)}, 1, 1)
	both := slices.Concat(levels[:8], slices.Repeat(levels[:1], 12))
	wantPeak(t, "both limits", append(both, levels...), 20, 8)
	day := newCmd(1, impl.TyPost, 2, 4)
	day.Life = impl.LfDay
	wantPeak(t, "of a day", []impl.Cmd{day, day, day, {Kind: impl.CmDayEnd}, day, {Kind: impl.CmDayEnd}}, 3, 1)
	wantPeak(t, "reduced", []impl.Cmd{day, day, reduceCmd(1, 1), cancelCmd(2), reduceCmd(1, 1)}, 2, 1)
}

// TestPromise12NoRoom tells orders as if there were room for them: the judge takes none above the limits.
func TestPromise12NoRoom(t *testing.T) {
	for _, one := range []struct {
		name string
		list []impl.Cmd
		c    impl.Cmd
	}{
		{"orders", slices.Repeat([]impl.Cmd{newCmd(1, impl.TyLimit, 1, 4)}, 20), newCmd(1, impl.TyLimit, 1, 4)},
		{"orders of the other side", slices.Repeat([]impl.Cmd{newCmd(1, impl.TyLimit, 1, 4)}, 20), newCmd(2, impl.TyPost, 1, 5)},
		{"levels", levelsOf(8), newCmd(1, impl.TyLimit, 1, 30)},
		{"levels of the other side", levelsOf(8), newCmd(2, impl.TyLimit, 1, 60)},
	} {
		frames := framesOf(wantRun(one.list))
		frames = frames[:len(frames)-1]
		next := len(one.list) + 1
		more := groupFrame(accept(next, one.c), short(impl.EvRest, next, one.c.Qty))
		b, places := layTape(append(slices.Clone(frames), more)...)
		checkBehind(t, one.name, b, impl.Verdict{At: payloadPlace(places[len(frames)], more), Rule: impl.RuAccept})
		refused := groupFrame(refuse(one.c, impl.RfFull))
		wantLawful(t, one.name, endedTape(append(slices.Clone(frames), refused)...))
		wantLawful(t, one.name, endedTape(frames...))
	}
}

// levelsOf has so many buying orders, of a level each.
func levelsOf(n int) []impl.Cmd {
	var out []impl.Cmd
	for i := range n {
		out = append(out, newCmd(1, impl.TyLimit, 1, 40+i))
	}
	return out
}

// TestPromise12AnyTape asks that no lawful tape goes above the limits, and that some go up to them.
func TestPromise12AnyTape(t *testing.T) {
	p := picker{116}
	mostOrders, mostLevels := 0, 0
	for range 80 {
		list := pickScript(&p, impl.MaxCmds)
		tape, _ := impl.TapeOf(list)
		orders, levels, code := impl.Peak(tape)
		b := impl.Book{Next: 1}
		wantOrders, wantMost := 0, 0
		for _, c := range list {
			b, _, _ = impl.StepBook(b, c)
			wantOrders, wantMost = max(wantOrders, len(b.Orders)), max(wantMost, len(wantLevels(b)))
		}
		if orders != wantOrders || levels != wantMost || code != impl.OK || orders > 20 || levels > 8 {
			t.Fatalf("Peak = %d, %d, %d, not %d, %d", orders, levels, code, wantOrders, wantMost)
		}
		mostOrders, mostLevels = max(mostOrders, orders), max(mostLevels, levels)
	}
	if mostOrders < 20 || mostLevels < 8 {
		t.Errorf("the most are %d, %d: the test asks too little", mostOrders, mostLevels)
	}
}

// TestPromise16LongestTapes has scripts of MaxCmds commands with the longest groups that there are.
func TestPromise16LongestTapes(t *testing.T) {
	greatest := impl.Cmd{Kind: leastInt, Side: leastInt, Type: leastInt, Life: leastInt, Qty: leastInt, Id: leastInt, Price: -1, Tag: someText(40)}
	if tape := checkScript(t, "the longest refusals", slices.Repeat([]impl.Cmd{greatest}, impl.MaxCmds)); len(tape) < 15000 {
		t.Errorf("a tape of %d bytes: the test asks too little", len(tape))
	}
	var list []impl.Cmd
	for len(list)+21 <= impl.MaxCmds {
		for range 20 {
			list = append(list, newCmd(2, impl.TyLimit, impl.MaxQty, impl.MaxTicks))
		}
		list = append(list, newCmd(1, impl.TyMarket, impl.MaxQty, 0))
		list = append(list, slices.Repeat([]impl.Cmd{newCmd(1, impl.TyLimit, impl.MaxQty, impl.MaxTicks)}, 19)...)
	}
	checkScript(t, "the greatest trades", list[:impl.MaxCmds])
	var days []impl.Cmd
	for len(days)+21 <= impl.MaxCmds {
		for range 20 {
			c := newCmd(2, impl.TyPost, impl.MaxQty, impl.MaxTicks)
			c.Life, c.Tag = impl.LfDay, "123456789012"
			days = append(days, c)
		}
		days = append(days, impl.Cmd{Kind: impl.CmDayEnd})
	}
	checkScript(t, "the longest days", days)
	var sweeps []impl.Cmd
	for len(sweeps)+21 <= impl.MaxCmds {
		for range 20 {
			sweeps = append(sweeps, newCmd(2, impl.TyLimit, 1, impl.MaxTicks))
		}
		sweeps = append(sweeps, newCmd(1, impl.TyLimit, 25, impl.MaxTicks))
		sweeps = append(sweeps, impl.Cmd{Kind: impl.CmCancel, Id: len(sweeps)})
	}
	checkScript(t, "the longest sweeps", sweeps)
}

// TestTapesInARow asks for many tapes one behind the other: none of those who write them is left waiting.
func TestTapesInARow(t *testing.T) {
	p := picker{117}
	list := pickScript(&p, 30)
	want := wantTape(list)
	ahead := runtime.NumGoroutine()
	for range 2000 {
		if got, code := impl.TapeOf(list); !bytes.Equal(got, want) || code != impl.OK {
			t.Fatalf("TapeOf = %s, %d, not %s", showBytes(got), code, showBytes(want))
		}
		if tape, code := impl.TapeOf(make([]impl.Cmd, impl.MaxCmds+1)); len(tape) != 0 || code != impl.ErrMany {
			t.Fatalf("TapeOf = %d bytes, %d", len(tape), code)
		}
	}
	// One that is just ending may still be counted.
	for wait := 0; runtime.NumGoroutine() > ahead; wait++ {
		if wait == 500 {
			t.Fatalf("%d goroutines are left, where %d were", runtime.NumGoroutine(), ahead)
		}
		time.Sleep(10 * time.Millisecond)
	}
}
