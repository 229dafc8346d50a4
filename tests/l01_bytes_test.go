package tests

import (
	"bytes"
	"math"
	"math/big"
	"testing"

	"loop.example/g00092/impl"
)

// numberBytes works a number's bytes out from the document's words, in whole numbers without bounds.
func numberBytes(n int) []byte {
	u := new(big.Int).Mul(big.NewInt(int64(n)), big.NewInt(2))
	if n < 0 {
		u.Neg(u)
		u.Sub(u, big.NewInt(1))
	}
	var out []byte
	piece := new(big.Int)
	for {
		u.DivMod(u, big.NewInt(128), piece)
		if u.Sign() == 0 {
			return append(out, byte(piece.Int64()))
		}
		out = append(out, byte(piece.Int64())+128)
	}
}

// edgeNumbers has both sides of each further byte, of both signs, and both ends.
func edgeNumbers() []int {
	out := []int{0, 1, -1, 2, -2, 3, -3, impl.MaxStr, impl.MaxText, -impl.MaxText, leastInt, leastInt + 1, greatestInt, greatestInt - 1}
	for shift := 0; shift < 63; shift++ {
		edge := 1 << shift
		for d := -2; d <= 2; d++ {
			out = append(out, edge+d, -edge+d)
		}
	}
	return out
}

func TestPutNumberOrdinary(t *testing.T) {
	cases := []struct {
		n    int
		want []byte
	}{
		{0, []byte{0}}, {-1, []byte{1}}, {1, []byte{2}}, {-2, []byte{3}}, {2, []byte{4}},
		{63, []byte{126}}, {-64, []byte{127}}, {64, []byte{128, 1}}, {-65, []byte{129, 1}}, {100, []byte{200, 1}},
		{8191, []byte{254, 127}}, {-8192, []byte{255, 127}}, {8192, []byte{128, 128, 1}},
		{greatestInt, []byte{254, 255, 255, 255, 255, 255, 255, 255, 255, 1}},
		{leastInt, []byte{255, 255, 255, 255, 255, 255, 255, 255, 255, 1}},
	}
	for _, c := range cases {
		if got := impl.PutNumber(c.n); !bytes.Equal(got, c.want) {
			t.Errorf("PutNumber(%d) = %v, not %v", c.n, got, c.want)
		}
	}
}

func TestNumbersAreReadBack(t *testing.T) {
	numbers := edgeNumbers()
	p := picker{1}
	for range 5000 {
		numbers = append(numbers, int(p.next())>>p.below(64))
	}
	for _, n := range numbers {
		b := impl.PutNumber(n)
		if want := numberBytes(n); !bytes.Equal(b, want) {
			t.Fatalf("PutNumber(%d) = %v, not %v", n, b, want)
		}
		for _, ahead := range []int{0, 1, 7} {
			for _, behind := range [][]byte{nil, {0}, {128}, {255, 255}} {
				whole := append(append(bytes.Repeat([]byte{129}, ahead), b...), behind...)
				got, next, code := impl.GetNumber(whole, ahead)
				if got != n || next != ahead+len(b) || code != impl.OK {
					t.Fatalf("GetNumber(%v, %d) = %d, %d, %d, not %d", whole, ahead, got, next, code, n)
				}
			}
		}
	}
}

// checkNumber asks that b has a number at its beginning just when it begins with that number's own bytes.
func checkNumber(t *testing.T, b []byte) {
	t.Helper()
	end := 0
	for end < len(b) && b[end] >= 128 {
		end++
	}
	whole := end < len(b)
	right := whole && (end == 0 || b[end] != 0) && (end < 9 || end == 9 && b[end] == 1)
	n, next, code := impl.GetNumber(b, 0)
	if !right {
		if n != 0 || next != 0 || code != impl.ErrForm {
			t.Fatalf("GetNumber(%v, 0) = %d, %d, %d: no number stands there", b, n, next, code)
		}
		return
	}
	if code != impl.OK || next != end+1 || !bytes.Equal(numberBytes(n), b[:next]) || !bytes.Equal(impl.PutNumber(n), b[:next]) {
		t.Fatalf("GetNumber(%v, 0) = %d, %d, %d: these are not its bytes", b, n, next, code)
	}
}

func TestNoOtherBytesAreANumbers(t *testing.T) {
	for one := range 256 {
		checkNumber(t, []byte{byte(one)})
		for two := range 256 {
			checkNumber(t, []byte{byte(one), byte(two)})
			for _, three := range []byte{0, 1, 2, 127, 128, 255} {
				checkNumber(t, []byte{byte(one), byte(two), three})
			}
		}
	}
	for count := range 14 {
		for _, lead := range []byte{128, 129, 255} {
			for last := range 256 {
				b := append(bytes.Repeat([]byte{lead}, count), byte(last))
				checkNumber(t, b)
				checkNumber(t, append(b, 0))
				checkNumber(t, append(b, 1))
			}
			checkNumber(t, bytes.Repeat([]byte{lead}, count))
		}
	}
	p := picker{2}
	for range 20000 {
		b := p.bytes(p.below(13))
		for i := range b {
			if p.below(5) > 0 {
				b[i] |= 128
			}
		}
		checkNumber(t, b)
	}
}

func TestNumbersThatEndEarly(t *testing.T) {
	for _, n := range edgeNumbers() {
		b := impl.PutNumber(n)
		for end := range b {
			// The rest lies behind the end, where nothing is read.
			if got, next, code := impl.GetNumber(b[:end], 0); got != 0 || next != 0 || code != impl.ErrForm {
				t.Errorf("GetNumber(%v, 0) = %d, %d, %d", b[:end], got, next, code)
			}
		}
	}
}

func edgeFloats() []float64 {
	out := []float64{0, math.Copysign(0, -1), math.Inf(1), math.Inf(-1), 1, -1, 0.1, -0.1, 0.25, 99.75, 250000,
		math.SmallestNonzeroFloat64, -math.SmallestNonzeroFloat64, math.MaxFloat64, -math.MaxFloat64, math.Pi}
	for shift := range 64 {
		out = append(out, math.Float64frombits(1<<shift))
	}
	return out
}

func otherNaNBits() []uint64 {
	out := []uint64{0x7FF0000000000001, 0x7FF8000000000001, 0x7FFFFFFFFFFFFFFF, 0xFFF0000000000001, 0xFFF8000000000000, 0xFFFFFFFFFFFFFFFF}
	for shift := range 52 {
		if bits := 0x7FF0000000000000 | uint64(1)<<shift; bits != 0x7FF8000000000000 {
			out = append(out, bits)
		}
		out = append(out, 0xFFF0000000000000|uint64(1)<<shift)
	}
	return out
}

// bitBytes lays bits out, the highest byte first.
func bitBytes(bits uint64) []byte {
	out := make([]byte, 8)
	for i := 7; i >= 0; i-- {
		out[i] = byte(bits % 256)
		bits /= 256
	}
	return out
}

func TestPutFloatOrdinary(t *testing.T) {
	cases := []struct {
		x    float64
		want []byte
	}{
		{0, []byte{0, 0, 0, 0, 0, 0, 0, 0}},
		{math.Copysign(0, -1), []byte{128, 0, 0, 0, 0, 0, 0, 0}},
		{1, []byte{0x3F, 0xF0, 0, 0, 0, 0, 0, 0}},
		{-2, []byte{0xC0, 0, 0, 0, 0, 0, 0, 0}},
		{0.1, []byte{0x3F, 0xB9, 0x99, 0x99, 0x99, 0x99, 0x99, 0x9A}},
		{math.SmallestNonzeroFloat64, []byte{0, 0, 0, 0, 0, 0, 0, 1}},
		{math.Inf(1), []byte{0x7F, 0xF0, 0, 0, 0, 0, 0, 0}},
		{math.Inf(-1), []byte{0xFF, 0xF0, 0, 0, 0, 0, 0, 0}},
		{math.NaN(), []byte{0x7F, 0xF8, 0, 0, 0, 0, 0, 0}},
	}
	for _, c := range cases {
		if got := impl.PutFloat(c.x); !bytes.Equal(got, c.want) {
			t.Errorf("PutFloat(%v) = %v, not %v", c.x, got, c.want)
		}
	}
	for _, bits := range otherNaNBits() {
		if got := impl.PutFloat(math.Float64frombits(bits)); !bytes.Equal(got, bitBytes(0x7FF8000000000000)) {
			t.Errorf("PutFloat of the NaN of bits %x = %v", bits, got)
		}
	}
}

func TestFloatsAreReadBack(t *testing.T) {
	floats := append(edgeFloats(), math.NaN())
	p := picker{3}
	for range 5000 {
		floats = append(floats, math.Float64frombits(p.next()))
	}
	for _, x := range floats {
		b := impl.PutFloat(x)
		if len(b) != 8 || !math.IsNaN(x) && !bytes.Equal(b, bitBytes(math.Float64bits(x))) {
			t.Fatalf("PutFloat(%v) = %v", x, b)
		}
		for ahead := range 3 {
			whole := append(append(bytes.Repeat([]byte{1}, ahead), b...), 0x7F, 0xF8)
			got, next, code := impl.GetFloat(whole, ahead)
			if !sameFloat(got, x) || next != ahead+8 || code != impl.OK {
				t.Fatalf("GetFloat(%v, %d) = %v, %d, %d, not %v", whole, ahead, got, next, code, x)
			}
			if !bytes.Equal(impl.PutFloat(got), b) {
				t.Fatalf("PutFloat of what was read of %v has other bytes", x)
			}
		}
	}
}

func TestNoOtherBytesAreAFloats(t *testing.T) {
	for _, bits := range otherNaNBits() {
		if x, next, code := impl.GetFloat(bitBytes(bits), 0); !sameFloat(x, 0) || next != 0 || code != impl.ErrForm {
			t.Errorf("GetFloat of the bits %x = %v, %d, %d", bits, x, next, code)
		}
	}
	for _, x := range edgeFloats() {
		b := impl.PutFloat(x)
		for end := range 8 {
			if got, next, code := impl.GetFloat(b[:end], 0); !sameFloat(got, 0) || next != 0 || code != impl.ErrForm {
				t.Errorf("GetFloat(%v, 0) = %v, %d, %d", b[:end], got, next, code)
			}
		}
		if got, next, code := impl.GetFloat(b, 1); !sameFloat(got, 0) || next != 0 || code != impl.ErrForm {
			t.Errorf("GetFloat(%v, 1) = %v, %d, %d", b, got, next, code)
		}
	}
}

// someText has every byte, so that none counts as an end.
func someText(n int) string {
	out := make([]byte, n)
	for i := range out {
		out[i] = byte(i * 37)
	}
	return string(out)
}

func TestPutText(t *testing.T) {
	cases := []struct{ t, want string }{
		{"", "\x00"}, {"a", "\x02a"}, {"\x00", "\x02\x00"}, {"ab\xff", "\x06ab\xff"},
		{"123456789012", "\x18123456789012"}, {"1234567890123", "\x1a1234567890123"}, {"12345678901234", "\x1a1234567890123"},
	}
	for _, c := range cases {
		if got := impl.PutText(c.t); string(got) != c.want {
			t.Errorf("PutText(%q) = %q, not %q", c.t, got, c.want)
		}
	}
	for _, n := range []int{13, 14, 20, 63, 64, 127, 128, 4096, impl.MaxText - 1, impl.MaxText, impl.MaxText + 1, 3 * impl.MaxText} {
		// The document cuts ahead of all, of the bound of a text too.
		if got, want := impl.PutText(someText(n)), "\x1a"+someText(13); string(got) != want {
			t.Errorf("PutText of %d bytes = %q, not %q", n, got, want)
		}
	}
}

func TestTextsAreReadBack(t *testing.T) {
	for n := range impl.MaxStr + 2 {
		text := someText(n)
		b := impl.PutText(text)
		if want := string([]byte{byte(2 * n)}) + text; string(b) != want {
			t.Fatalf("PutText(%q) = %q, not %q", text, b, want)
		}
		for ahead := range 3 {
			whole := append(append(bytes.Repeat([]byte{26}, ahead), b...), "more"...)
			got, next, code := impl.GetText(whole, ahead)
			if got != text || next != ahead+1+n || code != impl.OK {
				t.Errorf("GetText(%q, %d) = %q, %d, %d", whole, ahead, got, next, code)
			}
		}
	}
}

func TestNoOtherBytesAreATexts(t *testing.T) {
	wrong := []string{
		"", "\x02", "\x04a", "\x1a123456789012", "\x18", // they end early
		"\x1c12345678901234", "\x1e" + someText(200), "\xfe\x01" + someText(200), "\x80\x01" + someText(200), // more than MaxStr + 1
		"\x01", "\x03ab", "\x01" + someText(20), "\x19" + someText(20), // below 0
		"\x80", "\x80\x00", "\x82\x00a", "\x9a\x00" + someText(20), // no number
		"\xff\xff\xff\xff\xff\xff\xff\xff\xff\x01" + someText(20), // the least
		"\xfe\xff\xff\xff\xff\xff\xff\xff\xff\x01" + someText(20), // the greatest
		"\xff\xff\xff\xff\xff\xff\xff\xff\xff\x02" + someText(20), // too great
	}
	for _, s := range wrong {
		if got, next, code := impl.GetText([]byte(s), 0); got != "" || next != 0 || code != impl.ErrForm {
			t.Errorf("GetText(%.20q, 0) = %q, %d, %d", s, got, next, code)
		}
	}
	for one := range 256 {
		for two := range 256 {
			b := append([]byte{byte(one), byte(two)}, someText(30)...)
			got, next, code := impl.GetText(b, 0)
			right := one%2 == 0 && one <= 26
			if right != (code == impl.OK) || right && !bytes.Equal(impl.PutText(got), b[:next]) {
				t.Errorf("GetText(%q, 0) = %q, %d, %d", b, got, next, code)
			}
		}
	}
}

// reading is what a Get function answers, its value left out.
type reading struct{ next, code int }

// readings asks all three; zero says whether each value is zero.
func readings(b []byte, at int) (out [3]reading, zero bool) {
	n, next1, code1 := impl.GetNumber(b, at)
	x, next2, code2 := impl.GetFloat(b, at)
	s, next3, code3 := impl.GetText(b, at)
	return [3]reading{{next1, code1}, {next2, code2}, {next3, code3}}, n == 0 && sameFloat(x, 0) && s == ""
}

func checkReadings(t *testing.T, b []byte, at, code int) {
	t.Helper()
	want := reading{0, code}
	if got, zero := readings(b, at); got != [3]reading{want, want, want} || !zero {
		t.Errorf("at %d of %d bytes: %v, not each %v with a zero", at, len(b), got, want)
	}
}

func TestPlaces(t *testing.T) {
	for _, n := range []int{0, 1, 2, 8, 9, 100, impl.MaxText} {
		b := make([]byte, n)
		for _, at := range []int{-1, -2, -n - 1, leastInt, leastInt + 1, n + 1, n + 2, 2*n + 9, greatestInt - 1, greatestInt} {
			checkReadings(t, b, at, impl.ErrRange)
		}
		checkReadings(t, b, n, impl.ErrForm)
	}
	checkReadings(t, nil, 0, impl.ErrForm)
	checkReadings(t, nil, 1, impl.ErrRange)
	checkReadings(t, nil, -1, impl.ErrRange)
	// Bytes that lie behind the end of a slice are not in it.
	b := make([]byte, 64)
	checkReadings(t, b[:8], 9, impl.ErrRange)
	checkReadings(t, b[:8], 8, impl.ErrForm)
}

func TestBytesOfMaxTextAndMore(t *testing.T) {
	b := make([]byte, impl.MaxText+2)
	full := b[:impl.MaxText]
	want := [3]reading{{1, 0}, {8, 0}, {1, 0}}
	if got, _ := readings(full, 0); got != want {
		t.Errorf("MaxText bytes at 0: %v", got)
	}
	want = [3]reading{{impl.MaxText - 7, 0}, {impl.MaxText, 0}, {impl.MaxText - 7, 0}}
	if got, _ := readings(full, impl.MaxText-8); got != want {
		t.Errorf("MaxText bytes, eight from their end: %v", got)
	}
	for _, n := range []int{impl.MaxText + 1, impl.MaxText + 2} {
		for _, at := range []int{0, 1, impl.MaxText, impl.MaxText + 1, impl.MaxText + 2, impl.MaxText + 3, -1, leastInt, greatestInt} {
			checkReadings(t, b[:n], at, impl.ErrLong)
		}
	}
}

// sumBytes is the document's sum, in whole numbers without bounds.
func sumBytes(b []byte, was int) int {
	sum := big.NewInt(int64(was))
	for _, one := range b {
		sum.Mul(sum, big.NewInt(31))
		sum.Add(sum, big.NewInt(int64(one)+1))
	}
	return int(sum.Mod(sum, big.NewInt(65521)).Int64())
}

func TestSumOf(t *testing.T) {
	p := picker{4}
	for n := range 60 {
		b := p.bytes(n)
		for _, was := range []int{0, 1, 2, 255, 2113, 2114, 32768, impl.MaxSum - 2, impl.MaxSum - 1} {
			got, want := impl.SumOf(b, was), sumBytes(b, was)
			if got != want {
				t.Fatalf("SumOf(%v, %d) = %d, not %d", b, was, got, want)
			}
			cut := p.below(n + 1)
			if again := impl.SumOf(b[cut:], impl.SumOf(b[:cut], was)); again != want {
				t.Fatalf("SumOf(%v, %d) in two parts = %d, not %d", b, was, again, want)
			}
		}
	}
	for one := range 256 {
		for _, was := range []int{0, 1, impl.MaxSum - 1} {
			if got, want := impl.SumOf([]byte{byte(one)}, was), (31*was+one+1)%65521; got != want {
				t.Errorf("SumOf({%d}, %d) = %d, not %d", one, was, got, want)
			}
		}
	}
	if got := impl.SumOf([]byte("TJ1"), 1); got != ((31+85)*31+75)*31+50-65521 {
		t.Errorf("SumOf(TJ1, 1) = %d", got)
	}
	if got := impl.SumOf(nil, 77); got != 77 {
		t.Errorf("SumOf(nil, 77) = %d", got)
	}
}

func TestSumOfWrongSumsAndLongBytes(t *testing.T) {
	for _, b := range [][]byte{nil, {}, {0}, {255}, []byte("TJ1")} {
		for _, was := range []int{-1, -2, -impl.MaxSum, -impl.MaxSum + 1, leastInt, impl.MaxSum, impl.MaxSum + 1, 2 * impl.MaxSum, greatestInt} {
			if got := impl.SumOf(b, was); got != 0 {
				t.Errorf("SumOf(%v, %d) = %d", b, was, got)
			}
		}
	}
	p := picker{5}
	b := p.bytes(impl.MaxText + 2)
	for _, was := range []int{0, 1, impl.MaxSum - 1} {
		want := was
		for start := 0; start < impl.MaxText; start += 1024 {
			want = sumBytes(b[start:start+1024], want)
		}
		if got := impl.SumOf(b[:impl.MaxText], was); got != want || want == 0 {
			t.Errorf("SumOf of MaxText bytes behind %d = %d, not %d", was, got, want)
		}
		for _, n := range []int{impl.MaxText + 1, impl.MaxText + 2} {
			if got := impl.SumOf(b[:n], was); got != 0 {
				t.Errorf("SumOf of %d bytes = %d", n, got)
			}
		}
	}
}

func TestTicksOfAllPrices(t *testing.T) {
	for n := 1; n <= 1000000; n++ {
		x := float64(n) / 4
		if ticks, ok := impl.Ticks(x); ticks != n || !ok {
			t.Fatalf("Ticks(%v) = %d, %v", x, ticks, ok)
		}
		for _, near := range []float64{math.Nextafter(x, 0), math.Nextafter(x, 1e9), x + 0.125, -x} {
			if ticks, ok := impl.Ticks(near); ticks != 0 || ok {
				t.Fatalf("Ticks(%v) = %d, %v", near, ticks, ok)
			}
		}
	}
}

func TestTicksOfOtherFloats(t *testing.T) {
	wrong := []float64{
		0, math.Copysign(0, -1), -0.25, -1, -250000, 0.1, 0.2, 0.24, 0.125, 0.05, 1.1, 99.99, 249999.9, math.SmallestNonzeroFloat64, -math.SmallestNonzeroFloat64,
		250000.25, 250000.5, 250001, 1e6, 1 << 31, 1 << 32, 1 << 53, 1 << 61, 1 << 62, 1 << 63, 1 << 64, 1e300, math.MaxFloat64, -math.MaxFloat64,
		math.Inf(1), math.Inf(-1), math.NaN(), math.Float64frombits(0xFFF0000000000001),
	}
	for _, x := range wrong {
		if ticks, ok := impl.Ticks(x); ticks != 0 || ok {
			t.Errorf("Ticks(%v) = %d, %v", x, ticks, ok)
		}
	}
}
