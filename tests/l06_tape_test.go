package tests

import (
	"bytes"
	"slices"
	"testing"

	"loop.example/g00092/impl"
)

// someSums are the edges of what a sum may be, and numbers within.
var someSums = []int{-1, 0, 1, 255, 256, 48330, impl.MaxSum - 1, impl.MaxSum, impl.MaxSum + 1, 1 << 32, leastInt, greatestInt}

func isSum(n int) bool { return n >= 0 && n <= 65520 }

func TestTapeConstants(t *testing.T) {
	if impl.MaxFrame != 8192 || impl.MaxCmds != 200 || impl.MaxSum != 65521 {
		t.Errorf("MaxFrame %d, MaxCmds %d, MaxSum %d", impl.MaxFrame, impl.MaxCmds, impl.MaxSum)
	}
}

// TestTapeAsTold has its bytes written out.
func TestTapeAsTold(t *testing.T) {
	sell := newCmd(impl.SdSell, impl.TyLimit, 5, 401)
	cases := []struct {
		list []impl.Cmd
		want []byte
	}{
		{nil, []byte{84, 74, 49, 69, 16, 0, 0, 0, 0, 0, 0, 0, 0, 207, 98}},
		{[]impl.Cmd{sell, cancelCmd(1)}, slices.Concat(
			[]byte{84, 74, 49},
			[]byte{71, 36, 1, 4, 2, 0, 10, 64, 89, 16, 0, 0, 0, 0, 0, 0, 2, 4, 2, 10, 184, 39},
			[]byte{71, 6, 6, 2, 10, 35, 101},
			[]byte{69, 16, 4, 2, 0, 0, 0, 0, 0, 0, 39, 88})},
	}
	for _, c := range cases {
		if got, code := impl.TapeOf(c.list); !bytes.Equal(got, c.want) || code != impl.OK {
			t.Errorf("TapeOf = %v, %d, not %v", got, code, c.want)
		}
		wantLawful(t, "as told", c.want)
		if list, code := impl.Extract(c.want); !sameCmds(list, c.list) || code != impl.OK {
			t.Errorf("Extract = %v, %d", list, code)
		}
	}
	group, sum, code := impl.GroupFrame([]impl.Event{accept(1, sell), short(impl.EvRest, 1, 5)}, 48330)
	if !bytes.Equal(group, cases[1].want[3:25]) || sum != 184*256+39 || code != impl.OK {
		t.Errorf("GroupFrame = %v, %d, %d", group, sum, code)
	}
	group, sum, code = impl.GroupFrame([]impl.Event{short(impl.EvCancel, 1, 5)}, sum)
	if !bytes.Equal(group, cases[1].want[25:32]) || sum != 35*256+101 || code != impl.OK {
		t.Errorf("GroupFrame = %v, %d, %d", group, sum, code)
	}
	end, sum, code := impl.EndFrame(impl.Totals{Groups: 2, Accepted: 1}, sum)
	if !bytes.Equal(end, cases[1].want[32:]) || sum != 39*256+88 || code != impl.OK {
		t.Errorf("EndFrame = %v, %d, %d", end, sum, code)
	}
}

// checkScript asks for promises 9 and 16, and hands out the tape.
func checkScript(t *testing.T, name string, list []impl.Cmd) []byte {
	t.Helper()
	tape, code := impl.TapeOf(list)
	if want := wantTape(list); !bytes.Equal(tape, want) || code != impl.OK {
		t.Fatalf("%s: TapeOf of %d commands = %s, %d, not %s", name, len(list), showBytes(tape), code, showBytes(want))
	}
	wantLawful(t, name, tape)
	told, code := impl.Extract(tape)
	var cut []impl.Cmd
	for _, c := range list {
		c.Tag = c.Tag[:min(len(c.Tag), 13)]
		cut = append(cut, c)
	}
	normal, _ := impl.Normal(list)
	if !sameCmds(told, cut) || !sameCmds(told, normal) || code != impl.OK {
		t.Fatalf("%s: Extract = %v, %d, where the script is %v", name, told, code, cut)
	}
	log, _ := impl.RunScript(list)
	again, code := impl.RunScript(told)
	if !sameGroups(log.Groups, again.Groups) || !sameBook(log.Book, again.Book) || log.Totals != again.Totals || code != impl.OK {
		t.Fatalf("%s: the script runs to %s, %+v, what is extracted to %s, %+v, %d", name, showBook(log.Book), log.Totals, showBook(again.Book), again.Totals, code)
	}
	if totals, code := impl.TotalsOf(again.Groups); totals != log.Totals || code != impl.OK {
		t.Fatalf("%s: TotalsOf = %+v, %d, not %+v", name, totals, code, log.Totals)
	}
	return tape
}

func TestTapeOfHowMany(t *testing.T) {
	p := picker{91}
	full := pickScript(&p, impl.MaxCmds)
	for _, list := range [][]impl.Cmd{nil, {}, full[:1], full[:2], full[:199], full, make([]impl.Cmd, impl.MaxCmds), slices.Repeat([]impl.Cmd{{Kind: impl.CmDayEnd}}, impl.MaxCmds)} {
		checkScript(t, "so many", list)
	}
	for _, n := range []int{201, 202, 4095, 4096, 4097, 5000} {
		want := impl.ErrMany
		if n > 4096 {
			want = impl.ErrLong
		}
		for _, list := range [][]impl.Cmd{make([]impl.Cmd, n), slices.Repeat([]impl.Cmd{{Kind: impl.CmDayEnd}}, n)} {
			if tape, code := impl.TapeOf(list); len(tape) != 0 || code != want {
				t.Errorf("TapeOf of %d commands = %d bytes, %d", n, len(tape), code)
			}
		}
	}
}

// rawScripts have what no command should have, each kind of it in commands of all kinds.
func rawScripts() [][]impl.Cmd {
	var out [][]impl.Cmd
	for kind := range 6 {
		bases := []impl.Cmd{{Kind: kind}, {Kind: kind, Side: 2, Type: 1, Qty: 3, Price: 5}, {Kind: kind, Id: 1, Qty: 1}}
		for _, base := range bases {
			var list, numbers []impl.Cmd
			for _, price := range edgePrices() {
				c := base
				c.Price = price
				list = append(list, c)
			}
			for _, tag := range append(edgeTags(), longTags()...) {
				c := base
				c.Tag = tag
				list = append(list, c)
			}
			for _, n := range []int{1, 2, -1, 64, leastInt, leastInt + 1, greatestInt, impl.MaxQty, impl.MaxQty + 1} {
				for _, name := range []string{"kind", "side", "type", "life", "qty", "id"} {
					numbers = append(numbers, withField(base, name, n))
				}
			}
			out = append(out, list, numbers)
		}
	}
	for _, kind := range oddNumbers {
		out = append(out, []impl.Cmd{newCmd(1, impl.TyLimit, 1, 4), {Kind: kind}, {Kind: kind, Side: 1, Type: 1, Qty: 1, Price: 1, Tag: "t"}, cancelCmd(1)})
	}
	return out
}

func TestPromise9RawScripts(t *testing.T) {
	for _, list := range rawScripts() {
		checkScript(t, "raw", list)
	}
	for _, one := range refusedCases() {
		checkScript(t, "refused", []impl.Cmd{one.c, newCmd(2, impl.TyLimit, 5, 400), one.c, newCmd(1, impl.TyMarket, 1, 0), one.c})
	}
	checkScript(t, "as told", toldScript())
}

// TestPromise9AnyScript is of promise 16, too: checkScript goes the theorem's whole round.
func TestPromise9AnyScript(t *testing.T) {
	p := picker{92}
	var seen impl.Totals
	for range 120 {
		list := pickScript(&p, p.below(impl.MaxCmds+1))
		for range p.below(4) {
			list = append(list, anyCmd(&p))
		}
		list = list[:min(len(list), impl.MaxCmds)]
		tape := checkScript(t, "any script", list)
		log := wantRun(list)
		seen.Accepted += log.Totals.Accepted
		seen.Refused += log.Totals.Refused
		seen.Trades += log.Totals.Trades
		if len(tape) > impl.MaxText {
			t.Fatalf("a tape of %d bytes", len(tape))
		}
	}
	if seen.Accepted < 3000 || seen.Refused < 600 || seen.Trades < 600 {
		t.Errorf("%+v: the test asks too little", seen)
	}
}

// TestTapeIsItsFrames lays the frames of GroupFrame and EndFrame one behind the other.
func TestTapeIsItsFrames(t *testing.T) {
	p := picker{93}
	for range 40 {
		list := pickScript(&p, p.below(60))
		log, _ := impl.RunScript(list)
		want := []byte("TJ1")
		sum := impl.SumOf(want, 1)
		for _, group := range log.Groups {
			frame, next, code := impl.GroupFrame(group, sum)
			if code != impl.OK {
				t.Fatalf("GroupFrame = %d, of%s", code, showGroup(group))
			}
			want, sum = append(want, frame...), next
		}
		frame, _, _ := impl.EndFrame(log.Totals, sum)
		want = append(want, frame...)
		if got, code := impl.TapeOf(list); !bytes.Equal(got, want) || code != impl.OK {
			t.Fatalf("TapeOf = %s, %d, not %s", showBytes(got), code, showBytes(want))
		}
	}
}

// checkGroupFrame asks GroupFrame and the model, the faults in the document's order.
func checkGroupFrame(t *testing.T, name string, group []impl.Event, sum int) int {
	t.Helper()
	var want []byte
	wantNext, wantCode := 0, impl.OK
	payload := wantPayload(group)
	switch {
	case len(group) > 4096:
		wantCode = impl.ErrLong
	case slices.ContainsFunc(group, func(e impl.Event) bool { return !wantEventOK(e) }):
		wantCode = impl.ErrBad
	case !isSum(sum):
		wantCode = impl.ErrRange
	case len(payload) > 8192:
		wantCode = impl.ErrMany
	default:
		want, wantNext = wantFrame(tapeFrame{'G', payload}, sum)
	}
	got, next, code := impl.GroupFrame(group, sum)
	if !bytes.Equal(got, want) || next != wantNext || code != wantCode {
		t.Fatalf("%s: GroupFrame = %s, %d, %d, not %s, %d, %d, of %d events behind %d", name, showBytes(got), next, code, showBytes(want), wantNext, wantCode, len(group), sum)
	}
	return code
}

func wantGroupFrameCode(t *testing.T, name string, group []impl.Event, sum, code int) {
	t.Helper()
	if got := checkGroupFrame(t, name, group, sum); got != code {
		t.Fatalf("%s: GroupFrame answers %d, not %d, of %d events behind %d", name, got, code, len(group), sum)
	}
}

func TestGroupFrameSums(t *testing.T) {
	right := rightEvents()
	lists := [][]impl.Event{nil, {}, {short(impl.EvDayEnd, 0, 0)}, right[:1], right[:40], {fullEvent(impl.EvAccept), fullEvent(impl.EvRefuse), fullEvent(impl.EvTrade)}}
	for _, list := range lists {
		for _, sum := range someSums {
			wantGroupFrameCode(t, "a sum", list, sum, reasonIf(!isSum(sum), impl.ErrRange))
		}
	}
	for sum := 0; sum < impl.MaxSum; sum += 97 {
		wantGroupFrameCode(t, "any sum", lists[5], sum, impl.OK)
	}
	for _, e := range right {
		wantGroupFrameCode(t, "a right event", []impl.Event{e}, 1, impl.OK)
	}
	empty, sum, code := impl.GroupFrame(nil, 0)
	if !bytes.Equal(empty, []byte{71, 0, 2233 / 256, 2233 % 256}) || sum != 2233 || code != impl.OK {
		t.Errorf("GroupFrame of no event = %v, %d, %d", empty, sum, code)
	}
}

// TestGroupFrameWrongEvents lays them at each place, with right and with wrong sums.
func TestGroupFrameWrongEvents(t *testing.T) {
	right := []impl.Event{fullEvent(impl.EvAccept), fullEvent(impl.EvTrade), fullEvent(impl.EvRest)}
	for i, wrong := range append(wrongEvents(), impl.Event{}) {
		for at := range len(right) + 1 {
			group := slices.Insert(slices.Clone(right), at, wrong)
			wantGroupFrameCode(t, "a wrong event", group, someSums[i%len(someSums)], impl.ErrBad)
		}
	}
}

// framesOfSize are groups whose payloads have so many bytes, of short and of long events.
func framesOfSize(size int) [][]impl.Event {
	var out [][]impl.Event
	for _, e := range []impl.Event{short(impl.EvDayEnd, 0, 1), short(impl.EvRest, 5, 9), fullEvent(impl.EvTrade), fullEvent(impl.EvAccept), fullEvent(impl.EvRefuse)} {
		one := len(wantBytes(e))
		group := slices.Repeat([]impl.Event{e}, (size-one-20)/one)
		for left := size - one*len(group); left > 0; {
			// Events of three bytes where the rest is odd, of two for all else.
			next := short(impl.EvDayEnd, 0, 0)
			if left%2 == 1 {
				next = short(impl.EvDayEnd, 0, 64)
			}
			group = append(group, next)
			left -= len(wantBytes(next))
		}
		if len(group) <= impl.MaxList {
			out = append(out, group)
		}
	}
	return out
}

func TestGroupFrameSizes(t *testing.T) {
	for size := 8189; size <= 8196; size++ {
		groups := framesOfSize(size)
		if len(groups) < 4 {
			t.Fatalf("%d groups of %d bytes: the test asks too little", len(groups), size)
		}
		for _, group := range groups {
			if len(wantPayload(group)) != size {
				t.Fatalf("a payload of %d bytes, not %d", len(wantPayload(group)), size)
			}
			wantGroupFrameCode(t, "a size", group, 7, reasonIf(size > 8192, impl.ErrMany))
			wantGroupFrameCode(t, "a size and a wrong sum", group, -1, impl.ErrRange)
			wantGroupFrameCode(t, "a size and a wrong sum", group, impl.MaxSum, impl.ErrRange)
			wrong := slices.Clone(group)
			wrong[len(wrong)-1] = impl.Event{Kind: 10}
			wantGroupFrameCode(t, "a size and a wrong event", wrong, 7, impl.ErrBad)
		}
	}
	for _, n := range []int{4095, 4096, 4097, 5000} {
		for _, e := range []impl.Event{short(impl.EvDayEnd, 0, 1), short(impl.EvRest, 1, 1), {}, {Kind: 77}} {
			list := slices.Repeat([]impl.Event{e}, n)
			for _, sum := range []int{0, -1, impl.MaxSum} {
				checkGroupFrame(t, "many events", list, sum)
			}
		}
	}
	wantGroupFrameCode(t, "MaxList short events", slices.Repeat([]impl.Event{short(impl.EvDayEnd, 0, 1)}, impl.MaxList), 0, impl.OK)
	wantGroupFrameCode(t, "MaxList events of three bytes", slices.Repeat([]impl.Event{short(impl.EvRest, 1, 1)}, impl.MaxList), 0, impl.ErrMany)
	wantGroupFrameCode(t, "more events", slices.Repeat([]impl.Event{{}}, impl.MaxList+1), -1, impl.ErrLong)
}

// totalsFields are the places of all numbers of totals, in the order of their bytes.
func totalsFields(t *impl.Totals) []*int {
	return []*int{&t.Groups, &t.Accepted, &t.Refused, &t.Trades, &t.Volume, &t.Notional, &t.Live, &t.Left}
}

func TestEndFrame(t *testing.T) {
	cases := []impl.Totals{{}, {Groups: 1, Accepted: 2, Refused: 3, Trades: 4, Volume: 5, Notional: 6, Live: 7, Left: 8}}
	for _, n := range append([]int{-1, 1, 63, 64, -64, -65}, edgeNumbers()...) {
		var all impl.Totals
		for i := range totalsFields(&all) {
			one := cases[1]
			*totalsFields(&one)[i] = n
			*totalsFields(&all)[i] = n
			cases = append(cases, one)
		}
		cases = append(cases, all)
	}
	for i, totals := range cases {
		sums := []int{i % impl.MaxSum}
		if i%9 < 2 {
			sums = someSums
		}
		for _, sum := range sums {
			var want []byte
			wantNext, wantCode := 0, impl.ErrRange
			if isSum(sum) {
				want, wantNext = wantFrame(endFrame(totals), sum)
				wantCode = impl.OK
			}
			got, next, code := impl.EndFrame(totals, sum)
			if !bytes.Equal(got, want) || next != wantNext || code != wantCode {
				t.Fatalf("EndFrame(%+v, %d) = %v, %d, %d, not %v, %d, %d", totals, sum, got, next, code, want, wantNext, wantCode)
			}
		}
	}
}

// TestSumsChain asks that other frames, or frames in another order, come to another sum.
func TestSumsChain(t *testing.T) {
	one, two := []impl.Event{short(impl.EvDayEnd, 0, 1)}, []impl.Event{short(impl.EvDayEnd, 0, 2)}
	chain := func(groups ...[]impl.Event) int {
		sum := impl.SumOf([]byte("TJ1"), 1)
		for _, group := range groups {
			_, sum, _ = impl.GroupFrame(group, sum)
		}
		return sum
	}
	seen := map[int]int{}
	for _, sum := range []int{chain(), chain(one), chain(two), chain(one, two), chain(two, one), chain(one, one), chain(append(slices.Clone(one), two...))} {
		if seen[sum]++; seen[sum] > 1 {
			t.Errorf("two chains come to %d", sum)
		}
	}
}
