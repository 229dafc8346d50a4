package tests

import (
	"fmt"
	"math"
	"regexp"
	"strconv"
	"strings"
	"testing"

	"loop.example/g00092/impl"
)

// The model works chapter 9 out by patterns: a line is read as a whole, not
// word by word, and a desk asks the models of the other chapters.

const (
	numberForm = `(0|-?[1-9][0-9]{0,17})`
	priceForm  = `(-|(?:0|[1-9][0-9]{0,8})\.[0-9][0-9])`
)

var (
	newForm    = regexp.MustCompile(`^ *(buy|sell) +(limit|market|ioc|fok|post) +` + numberForm + ` +` + priceForm + `( +day)?(?: +tag +([^ ]+))? *$`)
	cancelForm = regexp.MustCompile(`^ *cancel +` + numberForm + ` *$`)
	reduceForm = regexp.MustCompile(`^ *reduce +` + numberForm + ` +` + numberForm + ` *$`)
	endForm    = regexp.MustCompile(`^ *end *$`)
	bookForm   = regexp.MustCompile(`^ *book *$`)
	tapeForm   = regexp.MustCompile(`^ *tape *$`)
	quietForm  = regexp.MustCompile(`^ *(#|$)`)
)

func mustNumber(s string) int {
	n, err := strconv.Atoi(s)
	if err != nil {
		panic(err)
	}
	return n
}

// wantPrice is the float that is nearest to a price, as one division of whole numbers rounds it.
func wantPrice(s string) float64 {
	if s == "-" {
		return 0
	}
	x, err := strconv.ParseFloat(s, 64)
	if err != nil {
		panic(err)
	}
	return x
}

// wantCmd is the command of a line, and whether it is one's.
func wantCmd(line string) (impl.Cmd, bool) {
	if m := newForm.FindStringSubmatch(line); m != nil {
		return impl.Cmd{
			Kind:  1,
			Side:  map[string]int{"buy": 1, "sell": 2}[m[1]],
			Type:  map[string]int{"limit": 1, "market": 2, "ioc": 3, "fok": 4, "post": 5}[m[2]],
			Qty:   mustNumber(m[3]),
			Price: wantPrice(m[4]),
			Life:  min(len(m[5]), 1),
			Tag:   m[6],
		}, true
	}
	if m := cancelForm.FindStringSubmatch(line); m != nil {
		return impl.Cmd{Kind: 2, Id: mustNumber(m[1])}, true
	}
	if m := reduceForm.FindStringSubmatch(line); m != nil {
		return impl.Cmd{Kind: 3, Id: mustNumber(m[1]), Qty: mustNumber(m[2])}, true
	}
	if endForm.MatchString(line) {
		return impl.Cmd{Kind: 4}, true
	}
	return impl.Cmd{}, false
}

func wantLines(text string) []string {
	lines := strings.Split(text, "\n")
	if lines[len(lines)-1] == "" {
		lines = lines[:len(lines)-1]
	}
	return lines
}

func wantReadCmd(line string) (impl.Cmd, int) {
	if len(line) > 65536 {
		return impl.Cmd{}, impl.ErrLong
	}
	c, ok := wantCmd(line)
	return c, reasonIf(!ok, impl.ErrSyntax)
}

func wantReadScript(text string) ([]impl.Cmd, int, int) {
	if len(text) > 65536 {
		return nil, impl.ErrLong, 0
	}
	var list []impl.Cmd
	for i, line := range wantLines(text) {
		c, ok := wantCmd(line)
		switch {
		case quietForm.MatchString(line):
		case !ok:
			return nil, impl.ErrSyntax, i + 1
		case len(list) == 200:
			return nil, impl.ErrMany, i + 1
		default:
			list = append(list, c)
		}
	}
	return list, impl.OK, 0
}

var wantReasons = []string{"", "kind", "form", "side", "type", "life", "price", "qty", "tag", "id", "more", "post", "fill", "full"}

func wantReasonName(reason int) string {
	if reason < 1 || reason > 13 {
		return ""
	}
	return wantReasons[reason]
}

// eventForms are the texts of events, with the names of their fields.
var eventForms = map[int]string{
	1: "accept id",
	2: "refuse reason",
	3: "trade id other qty price",
	4: "rest id qty",
	5: "drop id qty",
	6: "cancel id qty",
	7: "reduce id qty",
	8: "end qty",
	9: "expire id qty",
}

func wantEventText(e impl.Event) (string, int) {
	if !wantEventOK(e) {
		return "", impl.ErrBad
	}
	words := strings.Fields(eventForms[e.Kind])
	for i, name := range words[1:] {
		words[i+1] = fmt.Sprint(*field(&e, name))
		if name == "reason" {
			words[i+1] = wantReasonName(e.Reason)
		}
	}
	return strings.Join(words, " "), impl.OK
}

func wantDesk(text string) (string, int) {
	if len(text) > 65536 {
		return "", impl.ErrLong
	}
	lines := wantLines(text)
	if len(lines) > 200 {
		return "", impl.ErrMany
	}
	var said strings.Builder
	var list []impl.Cmd
	b := impl.Book{Next: 1}
	for _, line := range lines {
		c, ok := wantCmd(line)
		switch {
		case quietForm.MatchString(line):
		case ok:
			var group []impl.Event
			list = append(list, c)
			b, group = wantStep(b, c)
			said.WriteString(wantGroupLines(group))
		case bookForm.MatchString(line):
			for _, l := range wantLevels(b) {
				fmt.Fprintf(&said, "%s %d %d %d\n", []string{"", "buy", "sell"}[l.Side], l.Ticks, l.Qty, l.Count)
			}
		case tapeForm.MatchString(line):
			tape := wantTape(list)
			fmt.Fprintf(&said, "tape %d %d\n", len(tape), wantSum(tape, 1))
		default:
			said.WriteString("error syntax\n")
		}
	}
	return said.String(), impl.OK
}

func wantGroupLines(group []impl.Event) string {
	var out strings.Builder
	for _, e := range group {
		line, _ := wantEventText(e)
		out.WriteString(line + "\n")
	}
	return out.String()
}

// cmdLine is the line of a command that a line may have, and whether it may.
func cmdLine(c impl.Cmd) (string, bool) {
	line := ""
	switch c.Kind {
	case impl.CmNew:
		price := "-"
		if math.Float64bits(c.Price) != 0 {
			price = strconv.FormatFloat(c.Price, 'f', 2, 64)
		}
		line = strings.Join([]string{
			map[int]string{1: "buy", 2: "sell"}[c.Side],
			map[int]string{1: "limit", 2: "market", 3: "ioc", 4: "fok", 5: "post"}[c.Type],
			strconv.Itoa(c.Qty), price,
		}, " ")
		if c.Life == impl.LfDay {
			line += " day"
		}
		if c.Tag != "" {
			line += " tag " + c.Tag
		}
	case impl.CmCancel:
		line = fmt.Sprint("cancel ", c.Id)
	case impl.CmReduce:
		line = fmt.Sprint("reduce ", c.Id, " ", c.Qty)
	case impl.CmDayEnd:
		line = "end"
	}
	back, ok := wantCmd(line)
	return line, ok && sameCmd(back, c) && !strings.Contains(line, "\n")
}

// scriptLines are the lines of those commands that a line may have.
func scriptLines(list []impl.Cmd) []string {
	var out []string
	for _, c := range list {
		if line, ok := cmdLine(c); ok {
			out = append(out, line)
		}
	}
	return out
}

// textOfLines ends each line.
func textOfLines(lines []string) string {
	if len(lines) == 0 {
		return ""
	}
	return strings.Join(lines, "\n") + "\n"
}

func showText(text string) string {
	if len(text) > 1500 {
		return fmt.Sprintf("%d bytes %+q ..", len(text), text[:1500])
	}
	return fmt.Sprintf("%d bytes %+q", len(text), text)
}

// checkLine asks ReadCmd and the model about a line, and hands the code out.
func checkLine(t *testing.T, line string) (impl.Cmd, int) {
	t.Helper()
	want, wantCode := wantReadCmd(line)
	got, code := impl.ReadCmd(line)
	if !sameCmd(got, want) || code != wantCode {
		t.Fatalf("ReadCmd = %s, %d, not %s, %d, of %s", showCmd(got), code, showCmd(want), wantCode, showText(line))
	}
	return got, code
}

// checkText asks ReadScript, Desk and the model about a text.
func checkText(t *testing.T, name, text string) {
	t.Helper()
	want, wantCode, wantLine := wantReadScript(text)
	got, code, line := impl.ReadScript(text)
	if !sameCmds(got, want) || code != wantCode || line != wantLine {
		t.Fatalf("%s: ReadScript = %d commands %v, %d, %d, not %d commands %v, %d, %d, of %s", name, len(got), got, code, line, len(want), want, wantCode, wantLine, showText(text))
	}
	checkDesk(t, name, text)
}

// checkDesk hands out what the desk says.
func checkDesk(t *testing.T, name, text string) (string, int) {
	t.Helper()
	want, wantCode := wantDesk(text)
	got, code := impl.Desk(text)
	if got != want || code != wantCode {
		t.Fatalf("%s: Desk = %s, %d, not %s, %d, of %s", name, showText(got), code, showText(want), wantCode, showText(text))
	}
	return got, code
}
