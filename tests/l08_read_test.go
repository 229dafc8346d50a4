package tests

import (
	"fmt"
	"math"
	"slices"
	"strings"
	"testing"

	"loop.example/g00092/impl"
)

// wantLine asks that a line has a command.
func wantLine(t *testing.T, line string, want impl.Cmd) {
	t.Helper()
	if got, code := checkLine(t, line); code != impl.OK || !sameCmd(got, want) {
		t.Errorf("ReadCmd = %s, %d, not %s, of %q", showCmd(got), code, showCmd(want), line)
	}
}

// wantNoLine asks that a line is no command's.
func wantNoLine(t *testing.T, line string) {
	t.Helper()
	if got, code := checkLine(t, line); code != impl.ErrSyntax || !sameCmd(got, impl.Cmd{}) {
		t.Errorf("ReadCmd = %s, %d, of %q", showCmd(got), code, line)
	}
}

// withLife and withTag are a command with one thing more.
func withLife(c impl.Cmd) impl.Cmd {
	c.Life = impl.LfDay
	return c
}

func withTag(c impl.Cmd, tag string) impl.Cmd {
	c.Tag = tag
	return c
}

// TestReadCmdAsTold has its commands written out.
func TestReadCmdAsTold(t *testing.T) {
	buy := impl.Cmd{Kind: 1, Side: 1, Type: 1, Qty: 5, Price: 99.75}
	wantLine(t, "buy limit 5 99.75", buy)
	wantLine(t, "buy limit 5 99.75 day", withLife(buy))
	wantLine(t, "buy limit 5 99.75 tag desk", withTag(buy, "desk"))
	wantLine(t, "buy limit 5 99.75 day tag desk", withTag(withLife(buy), "desk"))
	wantLine(t, "sell market 7 -", impl.Cmd{Kind: 1, Side: 2, Type: 2, Qty: 7})
	wantLine(t, "cancel 3", impl.Cmd{Kind: 2, Id: 3})
	wantLine(t, "reduce 3 2", impl.Cmd{Kind: 3, Id: 3, Qty: 2})
	wantLine(t, "end", impl.Cmd{Kind: 4})
}

// TestReadCmdOfEachOrder has every side, TYPE and end of a line, with and
// without a PRICE: whether the engine takes such a command is not asked here.
func TestReadCmdOfEachOrder(t *testing.T) {
	types := map[string]int{"limit": 1, "market": 2, "ioc": 3, "fok": 4, "post": 5}
	for side, sideWord := range []string{1: "buy", 2: "sell"} {
		for typeWord, orderType := range types {
			for _, price := range []string{"-", "0.00", "0.25", "1.00", "99.75", "250000.00", "999999999.99"} {
				if side == 0 {
					continue
				}
				line := sideWord + " " + typeWord + " 12 " + price
				c := impl.Cmd{Kind: 1, Side: side, Type: orderType, Qty: 12, Price: wantPrice(price)}
				wantLine(t, line, c)
				wantLine(t, line+" day", withLife(c))
				wantLine(t, line+" tag x", withTag(c, "x"))
				wantLine(t, line+" day tag x", withTag(withLife(c), "x"))
				for _, wrong := range []string{
					" tag x day", " day day", " day day tag x", " tag", " day tag", " tag x y", " day tag x y", " tag x tag y", " day x", " x", " stay",
					" tag x day tag y", " day tag x day", " 1", " -", " #", " # more", " x tag y", " day x tag y", " tagx", " day tagx", " dayx",
				} {
					wantNoLine(t, line+wrong)
				}
			}
		}
	}
}

// TestReadCmdOfTagWords takes any word at all behind `tag`, however long it is.
func TestReadCmdOfTagWords(t *testing.T) {
	c := impl.Cmd{Kind: 1, Side: 2, Type: 5, Qty: 1, Price: 1}
	words := []string{"tag", "day", "x", "#", "#x", "-", "0", "buy", "end", "\t", "a\tb", "a\nb", "\n", "\r", "\x00", "\x7f", "\x80", "\xff\xfe", "é", "\u00a0", "\u2003", "123456789012", "1234567890123", someText(14), strings.Repeat("z", 60000)}
	for n := range 256 {
		if n != ' ' {
			words = append(words, string([]byte{byte(n)}), string([]byte{'a', byte(n), 'b'}))
		}
	}
	for _, word := range words {
		if strings.Contains(word, " ") {
			continue
		}
		wantLine(t, "sell post 1 1.00 tag "+word, withTag(c, word))
		wantLine(t, " sell  post 1 1.00  day tag   "+word+"  ", withTag(withLife(c), word))
		wantNoLine(t, "sell post 1 1.00 tag "+word+" x")
		wantNoLine(t, "sell post 1 1.00 tag "+word+" day")
	}
}

// numberTexts are texts, with whether they are a number's.
var numberTexts = []struct {
	text  string
	right bool
	n     int
}{
	{"0", true, 0}, {"1", true, 1}, {"9", true, 9}, {"10", true, 10}, {"-1", true, -1}, {"-10", true, -10}, {"100", true, 100}, {"1000001", true, 1000001},
	{"999999999999999999", true, 999999999999999999}, {"-999999999999999999", true, -999999999999999999}, {"100000000000000000", true, 100000000000000000},
	{"12345678901234567", true, 12345678901234567}, {"-100000000000000000", true, -100000000000000000},
	{"-0", false, 0}, {"00", false, 0}, {"01", false, 0}, {"-01", false, 0}, {"-00", false, 0}, {"+1", false, 0}, {"+0", false, 0}, {"-", false, 0}, {"--1", false, 0}, {"+", false, 0},
	{"1-", false, 0}, {"1000000000000000000", false, 0}, {"-1000000000000000000", false, 0}, {"0000000000000000001", false, 0}, {"9223372036854775807", false, 0}, {"-9223372036854775808", false, 0},
	{"18446744073709551617", false, 0}, {strings.Repeat("1", 400), false, 0}, {"1.0", false, 0}, {"1.", false, 0}, {".1", false, 0}, {"1e3", false, 0}, {"0x1", false, 0}, {"1_0", false, 0}, {"1,0", false, 0},
	{"a", false, 0}, {"1a", false, 0}, {"a1", false, 0}, {"1\t", false, 0}, {"\t1", false, 0}, {"1\n", false, 0}, {"\n1", false, 0}, {"/", false, 0}, {":", false, 0}, {"1/", false, 0}, {"1:", false, 0},
	{"\x001", false, 0}, {"1\x00", false, 0}, {"\xff", false, 0}, {"1\x80", false, 0}, {"１", false, 0}, {"٣", false, 0}, {"−1", false, 0}, {"#1", false, 0}, {"NaN", false, 0}, {"Inf", false, 0},
}

// TestReadCmdOfNumbers lays each text at each place of a number.
func TestReadCmdOfNumbers(t *testing.T) {
	for _, one := range numberTexts {
		cases := map[string]impl.Cmd{
			"buy limit " + one.text + " 1.00":                {Kind: 1, Side: 1, Type: 1, Qty: one.n, Price: 1},
			"sell market " + one.text + " - day tag a":       {Kind: 1, Side: 2, Type: 2, Life: 1, Qty: one.n, Tag: "a"},
			"cancel " + one.text:                             {Kind: 2, Id: one.n},
			"reduce " + one.text + " 5":                      {Kind: 3, Id: one.n, Qty: 5},
			"reduce 5 " + one.text:                           {Kind: 3, Id: 5, Qty: one.n},
			"reduce " + one.text + " " + one.text:            {Kind: 3, Id: one.n, Qty: one.n},
			"  reduce   " + one.text + "  " + one.text + " ": {Kind: 3, Id: one.n, Qty: one.n},
		}
		for line, c := range cases {
			if one.right {
				wantLine(t, line, c)
			} else {
				wantNoLine(t, line)
			}
		}
		wantNoLine(t, "end "+one.text)
		wantNoLine(t, "cancel "+one.text+" "+one.text)
		wantNoLine(t, "reduce "+one.text)
		wantNoLine(t, "reduce "+one.text+" 1 1")
		wantNoLine(t, one.text)
	}
}

// TestReadCmdOfPrices has each price's float written as hundredths.
func TestReadCmdOfPrices(t *testing.T) {
	right := map[string]int{
		"0.00": 0, "0.01": 1, "0.10": 10, "0.25": 25, "0.99": 99, "1.00": 100, "1.01": 101, "9.99": 999, "10.00": 1000, "99.10": 9910, "99.75": 9975, "100.00": 10000, "0.30": 30, "0.07": 7,
		"250000.00": 25000000, "250000.25": 25000025, "249999.75": 24999975, "123456789.01": 12345678901, "999999999.99": 99999999999, "100000000.00": 10000000000, "987654321.57": 98765432157,
	}
	for text, hundredths := range right {
		wantLine(t, "buy limit 1 "+text, impl.Cmd{Kind: 1, Side: 1, Type: 1, Qty: 1, Price: float64(hundredths) / 100})
		wantLine(t, "sell ioc 1 "+text+" day", impl.Cmd{Kind: 1, Side: 2, Type: 3, Life: 1, Qty: 1, Price: float64(hundredths) / 100})
	}
	c, code := impl.ReadCmd("buy limit 1 0.00")
	if math.Float64bits(c.Price) != 0 || code != impl.OK {
		t.Errorf("the price 0.00 is %v, %d", c.Price, code)
	}
	for _, text := range []string{
		"0.1", "0.250", "0.2", ".25", "00.25", "01.00", "1", "0", "1.", "0.", ".", "..", "1..00", "1.0.0", "1.00.", ".1.00", "1.00.00", "-1.00", "-0.25", "-0.00", "--", "-.", "-.25", "+1.00", "+0.25",
		"1000000000.00", "1234567890.12", "0000000001.00", "000000000.00", "1,00", "1.0a", "1.a0", "a.00", "1a.00", "1.-1", "1.+1", "1.0/", "1.:0", "/.00", "1:.00", "1e1.00", "1.e1", "1_0.00", "0x1.00",
		"1.00\t", "\t1.00", "1.00\n", "\n1.00", "1.\n0", "1.0\x00", "\xff.00", "1.\xff0", "1.０", "１.00", "NaN", "Inf", "+Inf", "1. 00", "1 .00", "#", "99999999999999999999.00", "1.000000000000", "1.00-", "-1", "1.0-",
	} {
		for _, ahead := range []string{"buy limit 1 ", "sell market 1 ", "buy fok 3 "} {
			for _, behind := range []string{"", " day", " tag x", " day tag x"} {
				wantNoLine(t, ahead+text+behind)
			}
		}
	}
}

// TestReadCmdOfAllHundredths asks that each price is rounded just once.
func TestReadCmdOfAllHundredths(t *testing.T) {
	p := picker{140}
	check := func(hundredths int) {
		line := fmt.Sprintf("buy post 3 %d.%02d", hundredths/100, hundredths%100)
		got, code := impl.ReadCmd(line)
		want := impl.Cmd{Kind: 1, Side: 1, Type: 5, Qty: 3, Price: float64(hundredths) / 100}
		if !sameCmd(got, want) || code != impl.OK {
			t.Fatalf("ReadCmd = %s, %d, not %s, of %q", showCmd(got), code, showCmd(want), line)
		}
		if ticks, ok := impl.Ticks(got.Price); ok != (hundredths%25 == 0 && hundredths > 0 && hundredths <= 25000000) || ok && ticks != hundredths/25 {
			t.Fatalf("%q has %d ticks, %v", line, ticks, ok)
		}
	}
	for hundredths := range 60000 {
		check(hundredths)
	}
	for range 60000 {
		check(int(p.next()%100000000000) / []int{1, 1, 10, 100, 1000, 10000, 100000}[p.below(7)])
	}
}

// TestReadCmdOfBlanks knows one blank alone.
func TestReadCmdOfBlanks(t *testing.T) {
	c := withTag(withLife(impl.Cmd{Kind: 1, Side: 1, Type: 1, Qty: 5, Price: 99.75}), "desk")
	words := []string{"buy", "limit", "5", "99.75", "day", "tag", "desk"}
	for _, blanks := range []string{" ", "  ", "   ", strings.Repeat(" ", 5000)} {
		line := strings.Join(words, blanks)
		for _, whole := range []string{line, blanks + line, line + blanks, blanks + line + blanks} {
			wantLine(t, whole, c)
		}
	}
	for _, other := range []string{"\t", "\n", "\r", "\v", "\f", "\x00", "\x85", "\xa0", "\u0085", "\u00a0", "\u2003", "\u3000", ",", "\x1f", "!", ""} {
		wantNoLine(t, strings.Join(words, other))
		wantNoLine(t, "end"+other+"end")
		for i := range len(words) - 1 {
			line := strings.Join(words[:i+1], " ") + other + strings.Join(words[i+1:], " ")
			wantNoLine(t, line)
		}
		if other != "" {
			for _, line := range []string{"end", "cancel 1", "reduce 1 1", "buy limit 1 1.00", "buy limit 1 1.00 day"} {
				wantNoLine(t, other+line)
				wantNoLine(t, line+other)
				wantNoLine(t, line+" "+other)
				wantNoLine(t, other+" "+line)
			}
		}
	}
}

// TestReadCmdOfNoCommand has lines that say nothing, and others that are none's.
func TestReadCmdOfNoCommand(t *testing.T) {
	for _, line := range []string{
		"", " ", "  ", strings.Repeat(" ", impl.MaxText), "#", "# end", "#end", " # end", "  #", "##", "#\xff",
		"book", "tape", " book", "book 1", "tape 1", "go", "x", "-", "0", "1", "\x00", "\xff", "\t", "\n", "end\n", "\nend", "end\nend", "end end", "end #", "end # of the day", "end 1",
		"buy", "sell", "cancel", "reduce", "buy limit", "buy limit 5", "buy 5 1.00", "buy limit 1.00", "limit 5 1.00", "buy limit 1.00 5", "buy 5 limit 1.00", "limit buy 5 1.00", "buy sell limit 5 1.00",
		"buy limit 5 day", "buy limit day 1.00", "buy day limit 5 1.00", "day buy limit 5 1.00", "buy limit 5 tag 1.00", "buy limit 5 1.00 5",
		"buy stop 5 1.00", "buy limits 5 1.00", "buy limi 5 1.00", "buy  5 1.00", "buy - 5 1.00", "buy # 5 1.00", "buy 1 5 1.00", "buy limit- 5 1.00",
		"bu limit 5 1.00", "buys limit 5 1.00", "sel limit 5 1.00", "sells limit 5 1.00", "buylimit 5 1.00", "cance 1", "cancels 1", "reduc 1 1", "reduces 1 1", "en", "ends", "e n d",
		"cancel 1 2", "cancel 1 day", "cancel 1 tag x", "cancel x", "cancel -", "reduce 1", "reduce 1 2 3", "reduce x 1", "reduce 1 x", "reduce 1 1.00", "cancel 1.00", "cancel #1", "end day", "end tag x",
	} {
		wantNoLine(t, line)
	}
	// Words are lower case, each byte of them.
	for _, line := range []string{"end", "cancel 1", "reduce 1 1", "buy limit 1 1.00 day tag x", "sell market 1 -", "buy ioc 1 1.00", "sell fok 1 1.00", "buy post 1 1.00"} {
		wantNoLine(t, strings.ToUpper(line))
		for i := range len(line) {
			upper := line[:i] + strings.ToUpper(line[i:i+1]) + line[i+1:]
			if upper != line && !strings.HasSuffix(upper, "X") {
				wantNoLine(t, upper)
			}
		}
	}
}

// TestReadCmdOneByteOff spoils each byte of lines.
func TestReadCmdOneByteOff(t *testing.T) {
	for _, line := range []string{"buy limit 5 99.75 day tag a", "sell market 10 -", " buy  ioc 1 0.25", "sell fok 20 1.00 day", "buy post 3 2.50 tag b", "cancel 12", "reduce -1 30", "end"} {
		for i := range len(line) + 1 {
			for n := range 256 {
				one := string([]byte{byte(n)})
				checkLine(t, line[:i]+one+line[i:])
				if i < len(line) {
					checkLine(t, line[:i]+one+line[i+1:])
				}
			}
			if i < len(line) {
				checkLine(t, line[:i]+line[i+1:])
			}
			checkLine(t, line[:i])
			checkLine(t, line[i:])
		}
	}
}

// TestReadCmdOfMaxText has the code of length ahead of all others.
func TestReadCmdOfMaxText(t *testing.T) {
	for _, line := range []string{"end", "cancel 7", "reduce 7 1", "buy limit 5 99.75 day tag desk", "", "#", "go"} {
		for n := impl.MaxText - 2; n <= impl.MaxText+3; n++ {
			blanks := strings.Repeat(" ", n-len(line))
			for _, whole := range []string{line + blanks, blanks + line, blanks[:10] + line + blanks[10:]} {
				got, code := checkLine(t, whole)
				if n > impl.MaxText && (code != impl.ErrLong || !sameCmd(got, impl.Cmd{})) {
					t.Fatalf("ReadCmd of %d bytes = %s, %d", n, showCmd(got), code)
				}
				if n <= impl.MaxText && code == impl.ErrLong {
					t.Fatalf("ReadCmd of %d bytes = %d", n, code)
				}
			}
		}
	}
	ahead := "buy limit 5 99.75 tag "
	for n := impl.MaxText - 1; n <= impl.MaxText+1; n++ {
		checkLine(t, ahead+strings.Repeat("w", n-len(ahead)))
	}
	checkLine(t, strings.Repeat("end ", 100000))
}

// pickWord is mostly one that lines have.
func pickWord(p *picker) string {
	words := []string{"buy", "sell", "limit", "market", "ioc", "fok", "post", "day", "tag", "cancel", "reduce", "end", "book", "tape", "#", "#x", "-", "0.25", "1.50", "99.10", "10.00", "0", "1", "2", "3", "-1", "00", "x", "desk", "\t", "\xff", "End"}
	if p.below(12) == 0 {
		return numberTexts[p.below(len(numberTexts))].text
	}
	return words[p.below(len(words))]
}

// pickLine is mostly a command's, with words changed, put in or left out.
func pickLine(p *picker) string {
	var words []string
	switch p.below(7) {
	case 0:
		words = []string{"cancel", fmt.Sprint(p.below(12))}
	case 1:
		words = []string{"reduce", fmt.Sprint(p.below(12)), fmt.Sprint(p.below(12))}
	case 2:
		words = []string{[]string{"end", "book", "tape", "# note", "", "go"}[p.below(6)]}
	default:
		types := []string{"limit", "limit", "post", "market", "ioc", "fok"}
		words = []string{[]string{"buy", "sell"}[p.below(2)], types[p.below(6)], fmt.Sprint(1 + p.below(30)), fmt.Sprintf("%d.%02d", p.below(4), 25*p.below(4))}
		if words[1] == "market" {
			words[3] = "-"
		}
		if p.below(3) == 0 {
			words = append(words, "day")
		}
		if p.below(3) == 0 {
			words = append(words, "tag", pickWord(p))
		}
	}
	if p.below(5) == 0 {
		at := p.below(len(words))
		switch p.below(3) {
		case 0:
			words[at] = pickWord(p)
		case 1:
			words = slices.Insert(words, at, pickWord(p))
		case 2:
			words = slices.Delete(words, at, at+1)
		}
	}
	line := strings.Repeat(" ", p.below(2))
	for _, word := range words {
		line += word + strings.Repeat(" ", max(1, p.below(4)))
	}
	if p.below(3) > 0 {
		line = strings.TrimRight(line, " ")
	}
	return strings.ReplaceAll(line, "\n", "")
}

func TestReadCmdOfAnyLine(t *testing.T) {
	p := picker{141}
	codes := map[int]int{}
	for range 40000 {
		_, code := checkLine(t, pickLine(&p))
		codes[code]++
	}
	if codes[impl.OK] < 15000 || codes[impl.ErrSyntax] < 5000 {
		t.Errorf("%v: the test asks too little", codes)
	}
}
