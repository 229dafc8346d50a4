package tests

import (
	"bytes"
	"fmt"
	"math"
	"slices"
	"strings"
	"testing"

	"loop.example/g00092/impl"
)

// The model works chapter 7 out by its sentences: bytes are read by the tables
// of the tests, events are held against the model of chapter 6.

// wantSum goes from the last byte to the first one, each with its power of 31.
func wantSum(b []byte, was int) int {
	sum, power := 0, 1
	for _, one := range slices.Backward(b) {
		sum = (sum + (int(one)+1)*power) % 65521
		power = power * 31 % 65521
	}
	return (sum + was*power) % 65521
}

// tapeFrame is a frame without its sum.
type tapeFrame struct {
	mark    byte
	payload []byte
}

func wantPayload(group []impl.Event) []byte {
	var out []byte
	for _, e := range group {
		out = append(out, wantBytes(e)...)
	}
	return out
}

func wantTotalsPayload(t impl.Totals) []byte {
	var out []byte
	for _, n := range []int{t.Groups, t.Accepted, t.Refused, t.Trades, t.Volume, t.Notional, t.Live, t.Left} {
		out = append(out, numberBytes(n)...)
	}
	return out
}

func groupFrame(events ...impl.Event) tapeFrame { return tapeFrame{'G', wantPayload(events)} }

func endFrame(t impl.Totals) tapeFrame { return tapeFrame{'E', wantTotalsPayload(t)} }

// wantFrame is a frame's bytes behind a sum, and the new sum.
func wantFrame(f tapeFrame, sum int) ([]byte, int) {
	out := slices.Concat([]byte{f.mark}, numberBytes(len(f.payload)), f.payload)
	sum = wantSum(out, sum)
	return append(out, byte(sum/256), byte(sum%256)), sum
}

// framesOf are the frames of a run.
func framesOf(log impl.RunLog) []tapeFrame {
	var out []tapeFrame
	for _, group := range log.Groups {
		out = append(out, groupFrame(group...))
	}
	return append(out, endFrame(log.Totals))
}

// layTape lays frames one behind the other, right in their sums whatever they are, and tells where each begins.
func layTape(frames ...tapeFrame) ([]byte, []int) {
	out := []byte{84, 74, 49}
	sum := wantSum(out, 1)
	var places []int
	for _, f := range frames {
		var b []byte
		b, sum = wantFrame(f, sum)
		places = append(places, len(out))
		out = append(out, b...)
	}
	return out, places
}

func tapeBytes(frames ...tapeFrame) []byte {
	b, _ := layTape(frames...)
	return b
}

func wantTape(list []impl.Cmd) []byte { return tapeBytes(framesOf(wantRun(list))...) }

// payloadPlace is where the payload of a frame begins that begins at a place.
func payloadPlace(at int, f tapeFrame) int { return at + 1 + len(numberBytes(len(f.payload))) }

func wantNumberAt(b []byte, at int) (int, int, bool) {
	end := at
	for end < len(b) && b[end] > 127 {
		end++
	}
	if end >= len(b) || end-at > 9 {
		return 0, 0, false
	}
	end++
	u := uint64(0)
	for _, one := range slices.Backward(b[at:end]) {
		u = u*128 + uint64(one%128)
	}
	n := int(u / 2)
	if u%2 == 1 {
		n = -n - 1
	}
	return n, end, end-at == 1 || bytes.Equal(numberBytes(n), b[at:end])
}

// wantEventAt reads the fields of the document's table, and asks in the end whether they are written so.
func wantEventAt(b []byte, at int) (impl.Event, int, bool) {
	if at >= len(b) || told[int(b[at])] == "" {
		return impl.Event{}, 0, false
	}
	e, next := plainEvent(int(b[at])), at+1
	for _, name := range strings.Fields(told[e.Kind]) {
		if name == "cmd.price" {
			if next+8 > len(b) {
				return impl.Event{}, 0, false
			}
			bits := uint64(0)
			for _, one := range b[next : next+8] {
				bits = bits*256 + uint64(one)
			}
			e.Cmd.Price = math.Float64frombits(bits)
			next += 8
			continue
		}
		n, behind, ok := wantNumberAt(b, next)
		if next = behind; !ok {
			return impl.Event{}, 0, false
		}
		if name != "cmd.tag" {
			*field(&e, name) = n
			continue
		}
		if n < 0 || n > 13 || next+n > len(b) {
			return impl.Event{}, 0, false
		}
		e.Cmd.Tag = string(b[next : next+n])
		next += n
	}
	return e, next, bytes.Equal(wantBytes(e), b[at:next])
}

// judged is what the model says of bytes.
type judged struct {
	verdict        impl.Verdict
	groups         [][]impl.Event
	book           impl.Book
	orders, levels int
}

func (j judged) unlawful(at, rule int) judged {
	j.verdict = impl.Verdict{At: at, Rule: rule}
	return j
}

// wantJudged goes along bytes as chapter 7 tells it.
func wantJudged(b []byte) judged {
	j := judged{book: impl.Book{Next: 1}}
	if len(b) < 3 || string(b[:3]) != "TJ1" {
		return j.unlawful(0, impl.RuFrame)
	}
	at, sum := 3, wantSum(b[:3], 1)
	for {
		f, payloadAt, ok := wantFrameAt(b, at, sum)
		if !ok {
			return j.unlawful(at, impl.RuFrame)
		}
		end := payloadAt + len(f.payload)
		if f.mark == 'E' {
			totals := wantTotalsPayload(wantTotals(j.groups, j.book))
			switch {
			case !bytes.Equal(f.payload, totals):
				return j.unlawful(payloadAt, impl.RuTotals)
			case len(b) > end+2:
				return j.unlawful(end+2, impl.RuBehind)
			}
			j.verdict.Lawful = true
			return j
		}
		if len(j.groups) == 200 {
			return j.unlawful(at, impl.RuMany)
		}
		group, place, rule := wantGroupIn(j.book, f.payload)
		if rule != 0 {
			return j.unlawful(payloadAt+place, rule)
		}
		j.groups = append(j.groups, group)
		j.book, _ = enginesGroup(j.book, group[0])
		j.orders, j.levels = max(j.orders, len(j.book.Orders)), max(j.levels, len(wantLevels(j.book)))
		at, sum = end+2, wantSum(b[at:end], sum)
	}
}

func wantFrameAt(b []byte, at, sum int) (tapeFrame, int, bool) {
	if at >= len(b) || b[at] != 'G' && b[at] != 'E' {
		return tapeFrame{}, 0, false
	}
	size, payloadAt, ok := wantNumberAt(b, at+1)
	if !ok || size < 0 || size > 8192 || payloadAt+size+2 > len(b) {
		return tapeFrame{}, 0, false
	}
	f := tapeFrame{b[at], b[payloadAt : payloadAt+size]}
	want, _ := wantFrame(f, sum)
	return f, payloadAt, bytes.HasPrefix(b[at:], want)
}

// wantGroupIn is the group of a payload, or where it breaks a rule.
func wantGroupIn(b impl.Book, payload []byte) ([]impl.Event, int, int) {
	var group []impl.Event
	for at := 0; at < len(payload); {
		e, next, ok := wantEventAt(payload, at)
		if !ok {
			return nil, at, impl.RuEvent
		}
		if rule := wantBroken(b, group, e); rule != 0 {
			return nil, at, rule
		}
		group = append(group, e)
		at = next
	}
	if len(group) == 0 || wantDue(b, group) != (impl.Due{}) {
		return nil, len(payload), impl.RuShort
	}
	return group, 0, 0
}

// toldCmds are the commands that groups tell.
func toldCmds(groups [][]impl.Event) []impl.Cmd {
	var out []impl.Cmd
	for _, group := range groups {
		c, _ := toldCmd(group[0])
		out = append(out, c)
	}
	return out
}

func sameCmds(one, two []impl.Cmd) bool { return slices.EqualFunc(one, two, sameCmd) }

func showBytes(b []byte) string {
	if len(b) > 400 {
		return fmt.Sprintf("%d bytes %v ..", len(b), b[:400])
	}
	return fmt.Sprintf("%d bytes %v", len(b), b)
}

// checkTape asks the judge and the model about bytes, and hands out the verdict.
func checkTape(t *testing.T, name string, b []byte) impl.Verdict {
	t.Helper()
	want := wantJudged(b)
	got, code := impl.Judge(b)
	if got != want.verdict || code != impl.OK {
		t.Fatalf("%s: Judge = %+v, %d, not %+v, of %s", name, got, code, want.verdict, showBytes(b))
	}
	list, code := impl.Extract(b)
	orders, levels, peakCode := impl.Peak(b)
	if !want.verdict.Lawful {
		if len(list) != 0 || code != impl.ErrLawless {
			t.Fatalf("%s: Extract = %d commands, %d, of unlawful %s", name, len(list), code, showBytes(b))
		}
		if orders != 0 || levels != 0 || peakCode != impl.ErrLawless {
			t.Fatalf("%s: Peak = %d, %d, %d, of unlawful %s", name, orders, levels, peakCode, showBytes(b))
		}
		return got
	}
	if cmds := toldCmds(want.groups); !sameCmds(list, cmds) || code != impl.OK {
		t.Fatalf("%s: Extract = %v, %d, not %v, of %s", name, list, code, cmds, showBytes(b))
	}
	if orders != want.orders || levels != want.levels || peakCode != impl.OK {
		t.Fatalf("%s: Peak = %d, %d, %d, not %d, %d, of %s", name, orders, levels, peakCode, want.orders, want.levels, showBytes(b))
	}
	checkExplained(t, name, b, list, want)
	return got
}

// checkExplained asks what promises 10 and 16 say of lawful bytes and the script that is extracted from them.
func checkExplained(t *testing.T, name string, b []byte, list []impl.Cmd, want judged) {
	t.Helper()
	tape, code := impl.TapeOf(list)
	if !bytes.Equal(tape, b) || code != impl.OK {
		t.Fatalf("%s: lawful %s explain themselves by the tape %s, %d", name, showBytes(b), showBytes(tape), code)
	}
	log, code := impl.RunScript(list)
	if !sameGroups(log.Groups, want.groups) || !sameBook(log.Book, want.book) || log.Totals != wantTotals(want.groups, want.book) || code != impl.OK {
		t.Fatalf("%s: what is extracted runs to %s, %+v, %d, not to %s, of %s", name, showBook(log.Book), log.Totals, code, showBook(want.book), showBytes(b))
	}
}

// wantVerdict asks for a place and a rule, and asks the model all else.
func wantVerdict(t *testing.T, name string, b []byte, at, rule int) {
	t.Helper()
	if got := checkTape(t, name, b); got != (impl.Verdict{At: at, Rule: rule}) {
		t.Fatalf("%s: %+v, not %d at %d, of %s", name, got, rule, at, showBytes(b))
	}
}

func wantLawful(t *testing.T, name string, b []byte) {
	t.Helper()
	if got := checkTape(t, name, b); got != (impl.Verdict{Lawful: true}) {
		t.Fatalf("%s: %+v, of %s", name, got, showBytes(b))
	}
}
