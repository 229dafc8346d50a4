package tests

import (
	"bytes"
	"fmt"
	"slices"
	"sync"
	"testing"

	"loop.example/g00092/impl"
)

// smallScript has every kind of event, in few bytes.
func smallScript() []impl.Cmd {
	day := newCmd(impl.SdBuy, impl.TyLimit, 6, 401)
	day.Life, day.Tag = impl.LfDay, "d"
	return []impl.Cmd{
		newCmd(impl.SdSell, impl.TyLimit, 2, 401),
		newCmd(impl.SdSell, impl.TyPost, 1, 400),
		day,
		reduceCmd(3, 2),
		{Kind: 9, Tag: "x"},
		newCmd(impl.SdSell, impl.TyIoc, 1, 402),
		{Kind: impl.CmDayEnd},
		newCmd(impl.SdBuy, impl.TyLimit, 70, 4),
		cancelCmd(5),
		newCmd(impl.SdSell, impl.TyLimit, 3, 8),
	}
}

func smallFrames() []tapeFrame { return framesOf(wantRun(smallScript())) }

// withFrame is frames with another one in the place of one of them.
func withFrame(frames []tapeFrame, i int, f tapeFrame) []tapeFrame {
	out := slices.Clone(frames)
	out[i] = f
	return out
}

// endedTape lays frames G, and the frame E that their totals ask for if they are lawful.
func endedTape(frames ...tapeFrame) []byte {
	j := wantJudged(tapeBytes(frames...))
	return tapeBytes(append(slices.Clone(frames), endFrame(wantTotals(j.groups, j.book)))...)
}

func TestJudgeHeads(t *testing.T) {
	tape := wantTape(smallScript())
	for n := range 3 {
		wantVerdict(t, "a beginning of the three bytes", tape[:n], 0, impl.RuFrame)
		for other := range 256 {
			b := bytes.Clone(tape)
			if b[n] = byte(other); b[n] != tape[n] {
				wantVerdict(t, "another head", b, 0, impl.RuFrame)
				wantVerdict(t, "another head alone", b[:3], 0, impl.RuFrame)
			}
		}
	}
	wantVerdict(t, "no bytes", nil, 0, impl.RuFrame)
	wantVerdict(t, "no bytes", []byte{}, 0, impl.RuFrame)
	wantVerdict(t, "the three bytes alone", []byte("TJ1"), 3, impl.RuFrame)
	wantVerdict(t, "a byte ahead", append([]byte{0}, tape...), 0, impl.RuFrame)
	wantVerdict(t, "no three bytes", tape[3:], 0, impl.RuFrame)
	wantVerdict(t, "the three bytes twice", append([]byte("TJ1"), tape...), 3, impl.RuFrame)
}

// TestPromise11Beginnings asks for each beginning of tapes: it stops to be lawful where the frame begins that is not whole.
func TestPromise11Beginnings(t *testing.T) {
	p := picker{101}
	for _, list := range [][]impl.Cmd{nil, smallScript(), toldScript(), pickScript(&p, 12)} {
		tape, places := layTape(framesOf(wantRun(list))...)
		wantLawful(t, "whole", tape)
		at := 0
		for n := range tape {
			if n == 3 || slices.Contains(places, n) {
				at = n
			}
			wantVerdict(t, "without its end", tape[:n], at, impl.RuFrame)
		}
	}
}

// checkByteChanged has the byte at a place changed to each other byte.
func checkByteChanged(t *testing.T, tape []byte, at int) {
	for other := range 256 {
		b := bytes.Clone(tape)
		if b[at] = byte(other); b[at] == tape[at] {
			continue
		}
		want := wantJudged(b).verdict
		if got, code := impl.Judge(b); got != want || got.Lawful || code != impl.OK {
			t.Errorf("byte %d is %d: %+v, %d, not %+v", at, other, got, code, want)
			return
		}
	}
}

// TestJudgeEachByteChanged has one byte changed at each place and to each other byte: no such tape is lawful.
func TestJudgeEachByteChanged(t *testing.T) {
	tape, places := layTape(smallFrames()...)
	var done sync.WaitGroup
	const workers = 8
	for worker := range workers {
		done.Go(func() {
			for at := worker; at < len(tape); at += workers {
				checkByteChanged(t, tape, at)
			}
		})
	}
	done.Wait()
	for at := range tape {
		b := bytes.Clone(tape)
		b[at] ^= byte(1 << (at % 8))
		checkTape(t, "a bit changed", b)
	}
	// A sum of its own kind for each frame: a change is seen in the frame that it is in.
	for i, place := range places {
		for _, at := range []int{place, place + 2, len(tape) - 1} {
			if i+1 < len(places) {
				at = min(at, places[i+1]-1)
			}
			b := bytes.Clone(tape)
			b[at] ^= 64
			if got := checkTape(t, "a bit changed", b); got.At != place && at != len(tape)-1 {
				t.Errorf("byte %d is changed, which is told at %d, not at %d", at, got.At, place)
			}
		}
	}
}

func TestJudgeBytesLeftOutAndPutIn(t *testing.T) {
	tape := wantTape(smallScript())
	for at := range tape {
		if got := checkTape(t, "a byte less", slices.Delete(bytes.Clone(tape), at, at+1)); got.Lawful {
			t.Errorf("without byte %d the tape is lawful", at)
		}
	}
	for at := range len(tape) + 1 {
		for _, one := range []byte{0, 1, 2, 69, 71, 127, 128, 255, tape[max(at-1, 0)]} {
			if got := checkTape(t, "a byte more", slices.Insert(bytes.Clone(tape), at, one)); got.Lawful {
				t.Errorf("with the byte %d at %d the tape is lawful", one, at)
			}
		}
	}
}

// TestJudgeBytesBehind lays one byte and many behind tapes.
func TestJudgeBytesBehind(t *testing.T) {
	for _, list := range [][]impl.Cmd{nil, smallScript()} {
		tape := wantTape(list)
		for one := range 256 {
			wantVerdict(t, "a byte behind", append(bytes.Clone(tape), byte(one)), len(tape), impl.RuBehind)
		}
		end, _ := impl.TapeOf(nil)
		behinds := [][]byte{tape, tape[3:], end[3:], []byte("TJ1"), {71, 0}, make([]byte, 1000), bytes.Repeat([]byte{255}, impl.MaxText-len(tape))}
		for _, behind := range behinds {
			wantVerdict(t, "bytes behind", slices.Concat(tape, behind), len(tape), impl.RuBehind)
		}
	}
}

// TestJudgeLongBytes goes over MaxText: bytes count as a text.
func TestJudgeLongBytes(t *testing.T) {
	tape := wantTape(smallScript())
	for _, b := range [][]byte{nil, []byte("TJ1"), tape, tape[:len(tape)-1]} {
		for _, n := range []int{impl.MaxText - 1, impl.MaxText} {
			if got := checkTape(t, "long bytes", append(bytes.Clone(b), make([]byte, n-len(b))...)); got.Lawful {
				t.Errorf("%d bytes are lawful", n)
			}
		}
		for _, n := range []int{impl.MaxText + 1, impl.MaxText + 2, 100000} {
			long := append(bytes.Clone(b), make([]byte, n-len(b))...)
			if got, code := impl.Judge(long); got != (impl.Verdict{}) || code != impl.ErrLong {
				t.Errorf("Judge of %d bytes = %+v, %d", n, got, code)
			}
			if list, code := impl.Extract(long); len(list) != 0 || code != impl.ErrLong {
				t.Errorf("Extract of %d bytes = %v, %d", n, list, code)
			}
			if orders, levels, code := impl.Peak(long); orders != 0 || levels != 0 || code != impl.ErrLong {
				t.Errorf("Peak of %d bytes = %d, %d, %d", n, orders, levels, code)
			}
		}
	}
}

// spelledFrame is a frame with its number spelled by hand; its sum is that of the bytes that are there.
func spelledFrame(mark byte, number, payload []byte, sum int) []byte {
	out := slices.Concat([]byte{mark}, number, payload)
	sum = wantSum(out, sum)
	return append(out, byte(sum/256), byte(sum%256))
}

// frameCase is bytes that are laid in the place of a frame.
type frameCase struct {
	name  string
	frame []byte
}

// noFrames are none in the place of a frame, behind a sum.
func noFrames(f tapeFrame, sum int) []frameCase {
	whole, _ := wantFrame(f, sum)
	size := len(f.payload)
	high, low := len(whole)-2, len(whole)-1
	swapped := bytes.Clone(whole)
	swapped[high], swapped[low] = whole[low], whole[high]
	needless := numberBytes(size)
	needless[len(needless)-1] += 128
	out := []frameCase{
		{"more bytes than the number needs", spelledFrame(f.mark, append(needless, 0), f.payload, sum)},
		{"a number of eleven bytes", spelledFrame(f.mark, append(bytes.Repeat([]byte{128}, 10), 1), f.payload, sum)},
		{"a number of more than 64 bits", spelledFrame(f.mark, append(bytes.Repeat([]byte{128}, 9), 2), f.payload, sum)},
		{"a number that goes on", spelledFrame(f.mark, bytes.Repeat([]byte{200}, 30), f.payload, sum)},
		{"a number that is greater than what is there", spelledFrame(f.mark, numberBytes(impl.MaxFrame), f.payload, sum)},
		{"MaxFrame + 1", spelledFrame(f.mark, numberBytes(impl.MaxFrame+1), make([]byte, impl.MaxFrame+1), sum)},
		{"MaxFrame + 1 without so much", spelledFrame(f.mark, numberBytes(impl.MaxFrame+1), f.payload, sum)},
		{"without a number", spelledFrame(f.mark, nil, nil, sum)[:1]},
		{"the sum of a tape's first frame", spelledFrame(f.mark, numberBytes(size), f.payload, (sum+1)%65521)},
		{"without the two bytes", whole[:high]},
		{"without the last byte", whole[:low]},
		{"swapped", swapped},
	}
	for _, n := range []int{-1, -2, -size, -size - 1, -8192, leastInt, greatestInt} {
		if n < 0 || n > 8192 {
			out = append(out, frameCase{fmt.Sprintf("the number %d", n), spelledFrame(f.mark, numberBytes(n), f.payload, sum)})
		}
	}
	for other := range 256 {
		if other != 'G' && other != 'E' {
			wrong, _ := wantFrame(tapeFrame{byte(other), f.payload}, sum)
			out = append(out, frameCase{fmt.Sprintf("the mark %d", other), wrong})
		}
		for _, at := range []int{high, low} {
			wrong := bytes.Clone(whole)
			if wrong[at] = byte(other); wrong[at] != whole[at] {
				out = append(out, frameCase{fmt.Sprintf("byte %d of the sum is %d", at-high, other), wrong})
			}
		}
	}
	return slices.DeleteFunc(out, func(c frameCase) bool { return bytes.Equal(c.frame, whole) })
}

// TestJudgeNoFrames lays what is no frame in the place of each one, with nothing behind it and with what was there.
func TestJudgeNoFrames(t *testing.T) {
	frames := smallFrames()
	tape, places := layTape(frames...)
	for i, f := range frames {
		at := places[i]
		_, sum := layAndSum(frames[:i]...)
		whole, _ := wantFrame(f, sum)
		for k, one := range noFrames(f, sum) {
			wantVerdict(t, one.name, slices.Concat(tape[:at], one.frame), at, impl.RuFrame)
			if k%8 == i%8 && len(one.frame) >= len(whole) {
				wantVerdict(t, one.name, slices.Concat(tape[:at], one.frame, tape[at+len(whole):]), at, impl.RuFrame)
			}
		}
	}
}

func layAndSum(frames ...tapeFrame) ([]byte, int) {
	out := []byte("TJ1")
	sum := wantSum(out, 1)
	for _, f := range frames {
		var b []byte
		b, sum = wantFrame(f, sum)
		out = append(out, b...)
	}
	return out, sum
}

// TestJudgeNumbersAndPayloads says one more and one less than a payload has; sums are of what is said, or of what is there.
func TestJudgeNumbersAndPayloads(t *testing.T) {
	frames := smallFrames()
	for i, f := range frames {
		ahead, sum := layAndSum(frames[:i]...)
		for _, more := range []int{-2, -1, 1, 2, 3, 100} {
			size := len(f.payload) + more
			if size < 0 {
				continue
			}
			there := spelledFrame(f.mark, numberBytes(size), f.payload, sum)
			wantVerdict(t, "a sum of what is there", slices.Concat(ahead, there), len(ahead), impl.RuFrame)
			wantVerdict(t, "a sum of what is there", slices.Concat(ahead, there, make([]byte, 200)), len(ahead), impl.RuFrame)
			if more < 0 {
				said := spelledFrame(f.mark, numberBytes(size), f.payload[:size], sum)
				if got := checkTape(t, "a sum of what is said", slices.Concat(ahead, said)); got.Rule == impl.RuFrame && got.At == len(ahead) {
					t.Errorf("frame %d, cut in its payload with a right sum, is none: %+v", i, got)
				}
			}
		}
	}
	// A payload of MaxFrame bytes is not too long: what is in it counts.
	for _, size := range []int{8191, 8192} {
		for _, ahead := range []int{0, 3, 10} {
			zeros := tapeFrame{'G', make([]byte, size)}
			b, places := layTape(append(slices.Clone(frames[:ahead]), zeros)...)
			wantVerdict(t, "a great payload", b, payloadPlace(places[ahead], zeros), impl.RuEvent)
			zeros.mark = 'E'
			b, places = layTape(append(slices.Clone(frames[:ahead]), zeros)...)
			wantVerdict(t, "a great payload", b, payloadPlace(places[ahead], zeros), impl.RuTotals)
			days := groupFrame(slices.Repeat([]impl.Event{short(impl.EvDayEnd, 0, 0)}, size/2)...)
			b, places = layTape(append(slices.Clone(frames[:ahead]), days)...)
			at, rule := 2, impl.RuStart
			if ahead == 3 {
				at, rule = 0, impl.RuCount
			}
			wantVerdict(t, "many events", b, payloadPlace(places[ahead], days)+at, rule)
		}
	}
}

// TestJudgeMarks tells a frame of the one mark for one of the other, right in its sum.
func TestJudgeMarks(t *testing.T) {
	frames := smallFrames()
	for i, f := range frames {
		f.mark = 'G' + 'E' - f.mark
		b, places := layTape(withFrame(frames, i, f)...)
		rule := impl.RuTotals
		if f.mark == 'G' {
			rule = impl.RuEvent
		}
		wantVerdict(t, "the other mark", b, payloadPlace(places[i], f), rule)
	}
	wantVerdict(t, "an E that is empty", tapeBytes(tapeFrame{'E', nil}), 5, impl.RuTotals)
}

// eventsIn are the places of events in the payload of a group, and the end of it.
func eventsIn(group []impl.Event) []int {
	out := []int{0}
	for _, e := range group {
		out = append(out, out[len(out)-1]+len(wantBytes(e)))
	}
	return out
}

// TestJudgeCutEvents ends payloads within each of their events, with right sums, and asks where the cut event begins.
func TestJudgeCutEvents(t *testing.T) {
	log := wantRun(smallScript())
	frames := framesOf(log)
	for i, group := range log.Groups {
		places := eventsIn(group)
		for size := range frames[i].payload {
			f := tapeFrame{'G', frames[i].payload[:size]}
			b, begins := layTape(withFrame(frames, i, f)...)
			at, rule := size, impl.RuShort
			for k, place := range places[:len(group)] {
				if size > place && size < places[k+1] {
					at, rule = place, impl.RuEvent
				}
			}
			wantVerdict(t, "a cut payload", b, payloadPlace(begins[i], f)+at, rule)
		}
	}
}

// restInto finds an order whose EvRest, cut by some bytes, would go on in what stands behind the payload.
func restInto(t *testing.T, cut int) (impl.Cmd, []impl.Event) {
	t.Helper()
	p := picker{102}
	head := wantSum([]byte("TJ1"), 1)
	for range 4000000 {
		c := newCmd(1, impl.TyLimit, 1+p.below(60), 1+p.below(1000))
		c.Tag = string(rune('!'+p.below(80))) + string(rune('!'+p.below(80)))
		group := []impl.Event{accept(1, c), short(impl.EvRest, 1, c.Qty)}
		payload := wantPayload(group)
		frame, _ := wantFrame(tapeFrame{'G', payload[:len(payload)-cut]}, head)
		if bytes.HasPrefix(frame[len(frame)-2:], payload[len(payload)-cut:]) {
			return c, group
		}
	}
	t.Fatal("no such order: the test asks too little")
	return impl.Cmd{}, nil
}

// TestJudgeEventsThatGoOnBehind has payloads that would be a lawful group's with the bytes of the sum: nothing is read behind a payload.
func TestJudgeEventsThatGoOnBehind(t *testing.T) {
	for _, cut := range []int{1, 2} {
		_, group := restInto(t, cut)
		payload := wantPayload(group)
		f := tapeFrame{'G', payload[:len(payload)-cut]}
		at := 3 + 2 + len(wantBytes(group[0]))
		wantVerdict(t, "into the sum", tapeBytes(f), at, impl.RuEvent)
		wantVerdict(t, "into the sum, and an end", tapeBytes(f, endFrame(wantTotals([][]impl.Event{group}, impl.Book{}))), at, impl.RuEvent)
		wantVerdict(t, "into the sum, and the frame of the whole group", tapeBytes(f, groupFrame(group...)), at, impl.RuEvent)
	}
	// The events of one group in two frames: the second one is none's beginning, the first one is short.
	log := wantRun(smallScript())
	frames := framesOf(log)
	for i, group := range log.Groups {
		for k := 1; k < len(group); k++ {
			split := slices.Insert(withFrame(frames, i, groupFrame(group[:k]...)), i+1, groupFrame(group[k:]...))
			b, places := layTape(split...)
			wantVerdict(t, "into the next frame", b, payloadPlace(places[i], split[i])+len(split[i].payload), impl.RuShort)
		}
		if i > 0 {
			b, places := layTape(withFrame(frames, i-1, groupFrame(slices.Concat(log.Groups[i-1], group)...))...)
			at := payloadPlace(places[i-1], tapeFrame{'G', slices.Concat(frames[i-1].payload, frames[i].payload)}) + len(frames[i-1].payload)
			wantVerdict(t, "two groups in a frame", b, at, impl.RuStart)
		}
	}
}

// noEvents are bytes that are none's.
func noEvents() [][]byte {
	out := [][]byte{
		{0}, {10}, {127}, {128}, {255}, {8}, {8, 128}, {8, 128, 0}, {4, 2}, {4, 128, 0, 2}, {3, 2, 4, 6}, {6, 2},
		{8, 128, 128, 128, 128, 128, 128, 128, 128, 128, 2},
	}
	// The Price stands behind the kind's byte and numbers of a byte each, the Tag behind it.
	for price, e := range map[int]impl.Event{5: accept(1, newCmd(1, impl.TyLimit, 1, 4)), 7: refuse(impl.Cmd{Kind: 9}, impl.RfKind)} {
		b := wantBytes(e)
		otherNaN := bytes.Clone(b)
		copy(otherNaN[price:], bitBytes(0x7FF8000000000001))
		longTag := slices.Insert(bytes.Clone(b), price+9, []byte("12345678901234")...)
		longTag[price+8] = 28
		noTag := bytes.Clone(b)
		noTag[price+8] = 1
		out = append(out, otherNaN, longTag, noTag, b[:len(b)-1])
	}
	return out
}

// TestJudgeWrongEvents lays bytes that are no event's first in a group and later, what was there behind them.
func TestJudgeWrongEvents(t *testing.T) {
	log := wantRun(smallScript())
	frames := framesOf(log)
	for i, group := range log.Groups {
		for _, place := range eventsIn(group) {
			for _, wrong := range noEvents() {
				payload := frames[i].payload
				for _, behind := range [][]byte{nil, payload[place:], {255, 255}} {
					f := tapeFrame{'G', slices.Concat(payload[:place], wrong, behind)}
					b, begins := layTape(withFrame(frames, i, f)...)
					if checkTape(t, "no event", b); behind == nil {
						wantVerdict(t, "no event", b, payloadPlace(begins[i], f)+place, impl.RuEvent)
					}
				}
			}
		}
	}
}
