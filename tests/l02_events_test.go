package tests

import (
	"bytes"
	"fmt"
	"math"
	"strings"
	"testing"

	"loop.example/g00092/impl"
)

// told is the document's table: the fields of each kind, in the order of their bytes.
var told = map[int]string{
	1: "cmd.side cmd.type cmd.life cmd.qty cmd.price cmd.tag id",
	2: "cmd.kind cmd.side cmd.type cmd.life cmd.qty cmd.id cmd.price cmd.tag reason",
	3: "id other qty price",
	4: "id qty",
	5: "id qty",
	6: "id qty",
	7: "id qty",
	8: "qty",
	9: "id qty",
}

const kindsOfEvents = 9

// wholeFields are all fields of an event that are whole numbers, its Kind left out.
var wholeFields = []string{"cmd.kind", "cmd.side", "cmd.type", "cmd.life", "cmd.qty", "cmd.id", "id", "other", "qty", "price", "reason"}

func field(e *impl.Event, name string) *int {
	switch name {
	case "cmd.kind":
		return &e.Cmd.Kind
	case "cmd.side":
		return &e.Cmd.Side
	case "cmd.type":
		return &e.Cmd.Type
	case "cmd.life":
		return &e.Cmd.Life
	case "cmd.qty":
		return &e.Cmd.Qty
	case "cmd.id":
		return &e.Cmd.Id
	case "id":
		return &e.Id
	case "other":
		return &e.Other
	case "qty":
		return &e.Qty
	case "price":
		return &e.Price
	case "reason":
		return &e.Reason
	}
	return nil
}

func tells(kind int, name string) bool {
	for _, one := range strings.Fields(told[kind]) {
		if one == name {
			return true
		}
	}
	return false
}

// wantBytes works an event's bytes out from the document's table.
func wantBytes(e impl.Event) []byte {
	out := []byte{byte(e.Kind)}
	for _, name := range strings.Fields(told[e.Kind]) {
		switch name {
		case "cmd.price":
			bits := math.Float64bits(e.Cmd.Price)
			if math.IsNaN(e.Cmd.Price) {
				bits = 0x7FF8000000000000
			}
			out = append(out, bitBytes(bits)...)
		case "cmd.tag":
			out = append(append(out, numberBytes(len(e.Cmd.Tag))...), e.Cmd.Tag...)
		default:
			out = append(out, numberBytes(*field(&e, name))...)
		}
	}
	return out
}

func sameCmd(c, d impl.Cmd) bool {
	price := sameFloat(c.Price, d.Price)
	c.Price, d.Price = 0, 0
	return price && c == d
}

func sameEvent(e, f impl.Event) bool {
	cmd := sameCmd(e.Cmd, f.Cmd)
	e.Cmd, f.Cmd = impl.Cmd{}, impl.Cmd{}
	return cmd && e == f
}

// showEvent keeps failures readable, whatever the Tag is.
func showEvent(e impl.Event) string {
	tag := e.Cmd.Tag
	e.Cmd.Tag = ""
	return fmt.Sprintf("%+v with a Tag of %d bytes %+q", e, len(tag), tag[:min(len(tag), 20)])
}

func sameEvents(one, two []impl.Event) bool {
	if len(one) != len(two) {
		return false
	}
	for i := range one {
		if !sameEvent(one[i], two[i]) {
			return false
		}
	}
	return true
}

// plainEvent has its kind's fields at zero.
func plainEvent(kind int) impl.Event {
	e := impl.Event{Kind: kind}
	if kind == impl.EvAccept {
		e.Cmd.Kind = impl.CmNew
	}
	return e
}

// fullEvent has other numbers in all of its kind's fields, no two alike.
func fullEvent(kind int) impl.Event {
	e := plainEvent(kind)
	for i, name := range strings.Fields(told[kind]) {
		switch name {
		case "cmd.price":
			e.Cmd.Price = 99.75
		case "cmd.tag":
			e.Cmd.Tag = "a tag"
		default:
			*field(&e, name) = 11 + 100*i
		}
	}
	return e
}

func edgePrices() []float64 {
	out := []float64{0, math.Copysign(0, -1), math.Inf(1), math.Inf(-1), math.NaN(), 1, -1, 0.1, 250000, math.MaxFloat64, math.SmallestNonzeroFloat64}
	for _, bits := range otherNaNBits() {
		out = append(out, math.Float64frombits(bits))
	}
	return out
}

// edgeTags are the Tags that an event may have.
func edgeTags() []string {
	out := []string{"", " ", "~", "\x00", "\x1f", "\x7f", "\xff", "\n\n", "\x00\xff\x80\x81", "é", "123456789012", "1234567890123", strings.Repeat("\xff", 13), strings.Repeat("\x00", 13)}
	for n := range impl.MaxStr + 2 {
		out = append(out, someText(n))
	}
	return out
}

func longTags() []string {
	return []string{"12345678901234", someText(14), someText(15), someText(64), someText(impl.MaxText), someText(impl.MaxText + 1), strings.Repeat("\x00", 14)}
}

// rightEvents has every kind with the edges of each of its fields.
func rightEvents() []impl.Event {
	var out []impl.Event
	for kind := 1; kind <= kindsOfEvents; kind++ {
		out = append(out, plainEvent(kind), fullEvent(kind))
		for _, name := range wholeFields {
			if !tells(kind, name) {
				continue
			}
			for _, n := range []int{1, -1, 63, 64, -64, -65, 1000000, leastInt, leastInt + 1, greatestInt, greatestInt - 1} {
				one, all := plainEvent(kind), fullEvent(kind)
				*field(&one, name) = n
				*field(&all, name) = n
				out = append(out, one, all)
			}
		}
		if !tells(kind, "cmd.price") {
			continue
		}
		for _, price := range edgePrices() {
			e := fullEvent(kind)
			e.Cmd.Price = price
			out = append(out, e)
		}
		for _, tag := range edgeTags() {
			e := fullEvent(kind)
			e.Cmd.Tag = tag
			out = append(out, e)
		}
	}
	return out
}

// wrongEvents are right but for one thing each.
func wrongEvents() []impl.Event {
	var out []impl.Event
	for _, kind := range []int{0, -1, -2, 10, 11, 127, 128, 255, 256, 257, 264, 265, 1 << 32, 1<<32 + 3, 1<<63 - 256 + 4, leastInt, leastInt + 1, leastInt + 8, greatestInt} {
		for like := 1; like <= kindsOfEvents; like++ {
			e := fullEvent(like)
			e.Kind = kind
			out = append(out, impl.Event{Kind: kind}, e)
		}
	}
	for kind := 1; kind <= kindsOfEvents; kind++ {
		for _, base := range []impl.Event{plainEvent(kind), fullEvent(kind)} {
			out = append(out, spoiledEvents(base)...)
		}
	}
	return out
}

func spoiledEvents(base impl.Event) []impl.Event {
	var out []impl.Event
	for _, name := range wholeFields {
		if tells(base.Kind, name) {
			continue
		}
		was := *field(&base, name)
		for _, n := range []int{0, 1, -1, 2, 3, 4, 256, 257, 1 << 32, leastInt, greatestInt} {
			if n == was {
				continue
			}
			e := base
			*field(&e, name) = n
			out = append(out, e)
		}
	}
	if tells(base.Kind, "cmd.price") {
		for _, tag := range longTags() {
			e := base
			e.Cmd.Tag = tag
			out = append(out, e)
		}
		return out
	}
	for _, price := range edgePrices() {
		if !sameFloat(price, 0) {
			e := base
			e.Cmd.Price = price
			out = append(out, e)
		}
	}
	for _, tag := range append(edgeTags(), longTags()...) {
		if tag != "" {
			e := base
			e.Cmd.Tag = tag
			out = append(out, e)
		}
	}
	return out
}

func TestEventConstants(t *testing.T) {
	got := []int{
		impl.CmNew, impl.CmCancel, impl.CmReduce, impl.CmDayEnd, impl.SdBuy, impl.SdSell,
		impl.TyLimit, impl.TyMarket, impl.TyIoc, impl.TyFok, impl.TyPost, impl.LfStay, impl.LfDay,
		impl.EvAccept, impl.EvRefuse, impl.EvTrade, impl.EvRest, impl.EvDrop, impl.EvCancel, impl.EvReduce, impl.EvDayEnd, impl.EvExpire,
	}
	want := []int{1, 2, 3, 4, 1, 2, 1, 2, 3, 4, 5, 0, 1, 1, 2, 3, 4, 5, 6, 7, 8, 9}
	for i := range want {
		if got[i] != want[i] {
			t.Errorf("constant %d is %d, not %d", i, got[i], want[i])
		}
	}
}

func TestEncodeEventOrdinary(t *testing.T) {
	order := impl.Cmd{Kind: impl.CmNew, Side: impl.SdBuy, Type: impl.TyPost, Life: impl.LfDay, Qty: 100, Price: 1, Tag: "ab"}
	raw := impl.Cmd{Kind: -1, Side: 2, Type: 3, Life: 4, Qty: 5, Id: 6, Price: -2, Tag: "\xff"}
	cases := []struct {
		e    impl.Event
		want []byte
	}{
		{impl.Event{Kind: impl.EvAccept, Cmd: order, Id: 64}, []byte{1, 2, 10, 2, 200, 1, 0x3F, 0xF0, 0, 0, 0, 0, 0, 0, 4, 'a', 'b', 128, 1}},
		{impl.Event{Kind: impl.EvRefuse, Cmd: raw, Reason: 7}, []byte{2, 1, 4, 6, 8, 10, 12, 0xC0, 0, 0, 0, 0, 0, 0, 0, 2, 255, 14}},
		{impl.Event{Kind: impl.EvRefuse}, []byte{2, 0, 0, 0, 0, 0, 0, 0, 0, 0, 0, 0, 0, 0, 0, 0, 0}},
		{impl.Event{Kind: impl.EvTrade, Id: 1, Other: 2, Qty: 3, Price: 4}, []byte{3, 2, 4, 6, 8}},
		{impl.Event{Kind: impl.EvRest, Id: 1, Qty: 2}, []byte{4, 2, 4}},
		{impl.Event{Kind: impl.EvDrop, Id: 1, Qty: 2}, []byte{5, 2, 4}},
		{impl.Event{Kind: impl.EvCancel, Id: 1, Qty: 2}, []byte{6, 2, 4}},
		{impl.Event{Kind: impl.EvReduce, Id: 1, Qty: 2}, []byte{7, 2, 4}},
		{impl.Event{Kind: impl.EvDayEnd, Qty: 2}, []byte{8, 4}},
		{impl.Event{Kind: impl.EvExpire, Id: -1, Qty: -2}, []byte{9, 1, 3}},
	}
	for _, c := range cases {
		if got, code := impl.EncodeEvent(c.e); !bytes.Equal(got, c.want) || code != impl.OK {
			t.Errorf("EncodeEvent(%+v) = %v, %d, not %v", c.e, got, code, c.want)
		}
		if got, next, code := impl.DecodeEvent(c.want, 0); !sameEvent(got, c.e) || next != len(c.want) || code != impl.OK {
			t.Errorf("DecodeEvent(%v, 0) = %+v, %d, %d, not %+v", c.want, got, next, code, c.e)
		}
	}
}

func TestEventsAreReadBack(t *testing.T) {
	for _, e := range rightEvents() {
		if !impl.EventOK(e) {
			t.Fatalf("EventOK(%s) = false", showEvent(e))
		}
		b, code := impl.EncodeEvent(e)
		if want := wantBytes(e); !bytes.Equal(b, want) || code != impl.OK {
			t.Fatalf("EncodeEvent(%s) = %v, %d, not %v", showEvent(e), b, code, want)
		}
		for _, ahead := range []int{0, 1, 5} {
			for _, behind := range [][]byte{nil, {0}, {1}, {8}, {8, 4}, {255, 255}} {
				whole := append(append(bytes.Repeat([]byte{3}, ahead), b...), behind...)
				got, next, code := impl.DecodeEvent(whole, ahead)
				if !sameEvent(got, e) || next != ahead+len(b) || code != impl.OK {
					t.Fatalf("DecodeEvent(%v, %d) = %s, %d, %d, not %s", whole, ahead, showEvent(got), next, code, showEvent(e))
				}
			}
		}
		if list, code, at := impl.DecodeEvents(b); !sameEvents(list, []impl.Event{e}) || code != impl.OK || at != 0 {
			t.Fatalf("DecodeEvents(%v) = %d events, %d, %d", b, len(list), code, at)
		}
	}
}

func TestOtherEventsHaveOtherBytes(t *testing.T) {
	seen := map[string]impl.Event{}
	for _, e := range rightEvents() {
		b, _ := impl.EncodeEvent(e)
		was, ok := seen[string(b)]
		if ok && !sameEvent(was, e) {
			t.Fatalf("%s and %s have the same bytes %v", showEvent(was), showEvent(e), b)
		}
		seen[string(b)] = e
	}
}

func TestNaNsCountAsOne(t *testing.T) {
	for _, kind := range []int{impl.EvAccept, impl.EvRefuse} {
		e := fullEvent(kind)
		e.Cmd.Price = math.NaN()
		want, _ := impl.EncodeEvent(e)
		for _, bits := range otherNaNBits() {
			e.Cmd.Price = math.Float64frombits(bits)
			if got, code := impl.EncodeEvent(e); !bytes.Equal(got, want) || code != impl.OK {
				t.Errorf("EncodeEvent of kind %d with the NaN of bits %x = %v, %d", kind, bits, got, code)
			}
		}
	}
}

func TestWrongEvents(t *testing.T) {
	for _, e := range wrongEvents() {
		if impl.EventOK(e) {
			t.Fatalf("EventOK(%s) = true", showEvent(e))
		}
		if b, code := impl.EncodeEvent(e); len(b) != 0 || code != impl.ErrBad {
			t.Fatalf("EncodeEvent(%s) = %v, %d", showEvent(e), b, code)
		}
	}
}

// checkNoEvent asks that no event stands at a place.
func checkNoEvent(t *testing.T, b []byte, at, code int) {
	t.Helper()
	if e, next, got := impl.DecodeEvent(b, at); !sameEvent(e, impl.Event{}) || next != 0 || got != code {
		t.Fatalf("DecodeEvent(%v.., %d) = %s, %d, %d, not code %d", b[:min(len(b), 60)], at, showEvent(e), next, got, code)
	}
}

func TestEventsThatEndEarly(t *testing.T) {
	for _, e := range rightEvents() {
		b := wantBytes(e)
		for end := range b {
			// The rest lies behind the end, where nothing is read.
			checkNoEvent(t, b[:end], 0, impl.ErrForm)
			checkNoEvent(t, append([]byte{8, 4}, b[:end]...), 2, impl.ErrForm)
			list, code, at := impl.DecodeEvents(append([]byte{8, 4}, b[:end]...))
			if end == 0 && (len(list) != 1 || code != impl.OK || at != 0) || end > 0 && (len(list) != 0 || code != impl.ErrForm || at != 2) {
				t.Fatalf("DecodeEvents of {8, 4} and %v = %d events, %d, %d", b[:end], len(list), code, at)
			}
		}
	}
}

func TestNoOtherBytesAreAnEvents(t *testing.T) {
	rest := append(bytes.Repeat([]byte{0}, 40), someText(40)...)
	for kind := range 256 {
		b := append([]byte{byte(kind)}, rest...)
		if kind >= 1 && kind <= kindsOfEvents {
			if e, _, code := impl.DecodeEvent(b, 0); e.Kind != kind || code != impl.OK {
				t.Errorf("DecodeEvent of kind %d = %+v, %d", kind, e, code)
			}
			continue
		}
		checkNoEvent(t, b, 0, impl.ErrForm)
	}
	for kind := 1; kind <= kindsOfEvents; kind++ {
		start := byte(kind)
		checkNoEvent(t, append([]byte{start, 128, 0}, rest...), 0, impl.ErrForm)
		checkNoEvent(t, append([]byte{start, 255, 255, 255, 255, 255, 255, 255, 255, 255, 2}, rest...), 0, impl.ErrForm)
	}
	ahead := map[int][]byte{impl.EvAccept: {1, 2, 2, 0, 2}, impl.EvRefuse: {2, 2, 2, 2, 0, 2, 0}}
	for _, start := range ahead {
		for _, bits := range otherNaNBits() {
			checkNoEvent(t, append(append(append([]byte{}, start...), bitBytes(bits)...), rest...), 0, impl.ErrForm)
		}
		for _, count := range [][]byte{{1}, {3}, {25}, {28}, {30}, {128, 1}, {128, 0}, {154, 0}, {255, 255, 255, 255, 255, 255, 255, 255, 255, 1}} {
			b := append(append([]byte{}, start...), bitBytes(math.Float64bits(1))...)
			checkNoEvent(t, append(append(b, count...), rest...), 0, impl.ErrForm)
		}
	}
}

// TestWhateverIsReadIsWrittenAlike spoils bytes of events, and asks that what is still read has just these bytes.
func TestWhateverIsReadIsWrittenAlike(t *testing.T) {
	p := picker{9}
	events := rightEvents()
	read := 0
	for range 60000 {
		b := wantBytes(events[p.below(len(events))])
		for range p.below(4) {
			b[p.below(len(b))] = byte(p.next() >> p.below(9))
		}
		b = append(b, p.bytes(p.below(4))...)
		e, next, code := impl.DecodeEvent(b, 0)
		if code == impl.ErrForm && next == 0 && sameEvent(e, impl.Event{}) {
			continue
		}
		read++
		again, _ := impl.EncodeEvent(e)
		if code != impl.OK || !impl.EventOK(e) || next > len(b) || !bytes.Equal(again, b[:next]) || !bytes.Equal(wantBytes(e), b[:next]) {
			t.Fatalf("DecodeEvent(%v, 0) = %s, %d, %d, whose bytes are %v", b, showEvent(e), next, code, again)
		}
	}
	if read < 10000 {
		t.Errorf("only %d events were read", read)
	}
}

func TestPlacesOfEvents(t *testing.T) {
	one := wantBytes(fullEvent(impl.EvTrade))
	for _, n := range []int{0, 1, len(one), 100, impl.MaxText} {
		b := bytes.Repeat(one, n/len(one)+1)[:n]
		for _, at := range []int{-1, -2, -n - 1, leastInt, leastInt + 1, n + 1, n + 2, 2*n + 9, greatestInt - 1, greatestInt} {
			checkNoEvent(t, b, at, impl.ErrRange)
		}
		checkNoEvent(t, b, n, impl.ErrForm)
	}
	checkNoEvent(t, nil, 0, impl.ErrForm)
	checkNoEvent(t, nil, 1, impl.ErrRange)
	checkNoEvent(t, nil, -1, impl.ErrRange)
	// An event that lies behind the end of a slice is not in it.
	both := append(append([]byte{}, one...), one...)
	checkNoEvent(t, both[:len(one)], len(one), impl.ErrForm)
	checkNoEvent(t, both[:len(one)], len(one)+1, impl.ErrRange)
}

func TestEventsOfMaxTextBytesAndMore(t *testing.T) {
	b := bytes.Repeat([]byte{8, 4}, impl.MaxText/2+1)
	want := impl.Event{Kind: impl.EvDayEnd, Qty: 2}
	for _, at := range []int{0, 2, impl.MaxText - 2} {
		if e, next, code := impl.DecodeEvent(b[:impl.MaxText], at); e != want || next != at+2 || code != impl.OK {
			t.Errorf("DecodeEvent of MaxText bytes at %d = %+v, %d, %d", at, e, next, code)
		}
	}
	for _, n := range []int{impl.MaxText + 1, impl.MaxText + 2} {
		for _, at := range []int{0, 1, 2, impl.MaxText, impl.MaxText + 1, impl.MaxText + 2, impl.MaxText + 3, -1, leastInt, greatestInt} {
			checkNoEvent(t, b[:n], at, impl.ErrLong)
		}
		checkList(t, b[:n], nil, impl.ErrLong, 0)
		checkList(t, make([]byte, n), nil, impl.ErrLong, 0)
	}
}

func checkList(t *testing.T, b []byte, want []impl.Event, wantCode, wantAt int) {
	t.Helper()
	list, code, at := impl.DecodeEvents(b)
	if !sameEvents(list, want) || code != wantCode || at != wantAt {
		t.Errorf("DecodeEvents of %d bytes = %d events, %d, %d, not %d events, %d, %d", len(b), len(list), code, at, len(want), wantCode, wantAt)
	}
}

func TestDecodeEvents(t *testing.T) {
	checkList(t, nil, nil, impl.OK, 0)
	checkList(t, []byte{}, nil, impl.OK, 0)
	checkList(t, []byte{0}, nil, impl.ErrForm, 0)
	checkList(t, []byte{8}, nil, impl.ErrForm, 0)
	p := picker{10}
	events := rightEvents()
	for range 400 {
		var want []impl.Event
		var b []byte
		var places []int
		for range p.below(12) {
			e := events[p.below(len(events))]
			want = append(want, e)
			places = append(places, len(b))
			b = append(b, wantBytes(e)...)
		}
		checkList(t, b, want, impl.OK, 0)
		for _, more := range [][]byte{{0}, {10}, {255}, {8}, {3, 2, 2}, {8, 128, 0}} {
			checkList(t, append(append([]byte{}, b...), more...), nil, impl.ErrForm, len(b))
		}
		for _, at := range places {
			spoiled := append([]byte{}, b...)
			spoiled[at] = byte(10 + p.below(246))
			checkList(t, spoiled, nil, impl.ErrForm, at)
		}
	}
}

func TestDecodeEventsOfMaxListAndMore(t *testing.T) {
	one := impl.Event{Kind: impl.EvRest, Id: 1, Qty: -1}
	var want []impl.Event
	for range impl.MaxList {
		want = append(want, one)
	}
	full := bytes.Repeat(wantBytes(one), impl.MaxList)
	with := func(more ...byte) []byte { return append(append([]byte{}, full...), more...) }
	checkList(t, full[3:], want[1:], impl.OK, 0)
	checkList(t, full, want, impl.OK, 0)
	checkList(t, with(8, 4), nil, impl.ErrMany, len(full))
	checkList(t, with(8, 4, 8, 4), nil, impl.ErrMany, len(full))
	checkList(t, bytes.Repeat(wantBytes(one), impl.MaxText/3), nil, impl.ErrMany, len(full))
	checkList(t, with(bytes.Repeat([]byte{8, 4}, (impl.MaxText-len(full))/2)...), nil, impl.ErrMany, len(full))
	// No event is looked for over all bytes, ahead of too many.
	checkList(t, with(0), nil, impl.ErrForm, len(full))
	checkList(t, with(8), nil, impl.ErrForm, len(full))
	checkList(t, with(8, 4, 0), nil, impl.ErrForm, len(full)+2)
	checkList(t, with(8, 4, 8, 4, 3, 2), nil, impl.ErrForm, len(full)+4)
	spoiled := with(8, 4, 8, 4)
	spoiled[3*100] = 77
	checkList(t, spoiled, nil, impl.ErrForm, 3*100)
}

func TestNormal(t *testing.T) {
	var list, want []impl.Cmd
	add := func(tag, cut string) {
		for i, price := range edgePrices()[:13] {
			c := impl.Cmd{Kind: i - 1, Side: leastInt, Type: greatestInt, Life: -i, Qty: i, Id: 7, Price: price, Tag: tag}
			list = append(list, c)
			c.Tag = cut
			want = append(want, c)
		}
	}
	for _, tag := range edgeTags() {
		add(tag, tag)
	}
	for _, tag := range longTags() {
		add(tag, tag[:13])
	}
	check := func(list, want []impl.Cmd) []impl.Cmd {
		t.Helper()
		got, code := impl.Normal(list)
		if len(got) != len(want) || code != impl.OK {
			t.Fatalf("Normal of %d commands = %d commands, %d", len(list), len(got), code)
		}
		for i := range want {
			if !sameCmd(got[i], want[i]) {
				t.Fatalf("Normal of %s = %s", showEvent(impl.Event{Cmd: list[i]}), showEvent(impl.Event{Cmd: got[i]}))
			}
		}
		return got
	}
	again := check(list, want)
	check(again, want)
	check(nil, nil)
	check([]impl.Cmd{}, nil)
	check([]impl.Cmd{{}}, []impl.Cmd{{}})
}

func TestNormalOfMaxListAndMore(t *testing.T) {
	list := make([]impl.Cmd, impl.MaxList+2)
	for i := range list {
		list[i] = impl.Cmd{Id: i, Tag: someText(20)}
	}
	got, code := impl.Normal(list[:impl.MaxList])
	if len(got) != impl.MaxList || code != impl.OK {
		t.Fatalf("Normal of MaxList commands = %d commands, %d", len(got), code)
	}
	for i, c := range got {
		if c != (impl.Cmd{Id: i, Tag: someText(13)}) {
			t.Fatalf("Normal of MaxList commands has %+v at %d", c, i)
		}
	}
	for _, n := range []int{impl.MaxList + 1, impl.MaxList + 2} {
		if got, code := impl.Normal(list[:n]); len(got) != 0 || code != impl.ErrLong {
			t.Errorf("Normal of %d commands = %d commands, %d", n, len(got), code)
		}
	}
}
