package impl

const (
	MaxText = 65536
	MaxList = 4096
	MaxName = 40

	OK         = 0
	ErrBad     = 1
	ErrLong    = 2
	ErrForm    = 3
	ErrSyntax  = 4
	ErrRange   = 5
	ErrNone    = 6
	ErrMany    = 7
	ErrLawless = 8
)

var codeWords = [9]string{
	OK:         "ok",
	ErrBad:     "bad",
	ErrLong:    "long",
	ErrForm:    "form",
	ErrSyntax:  "syntax",
	ErrRange:   "range",
	ErrNone:    "none",
	ErrMany:    "many",
	ErrLawless: "lawless",
}

// NameOK says whether t is a name.
func NameOK(t string) bool {
	if len(t) < 1 || len(t) > MaxName || isDigit(t[0]) {
		return false
	}
	for i := range len(t) {
		if !isLetter(t[i]) && !isDigit(t[i]) {
			return false
		}
	}
	return true
}

// isLetter counts '_' too: a name may have it wherever it may have a letter.
func isLetter(c byte) bool {
	return c >= 'a' && c <= 'z' || c >= 'A' && c <= 'Z' || c == '_'
}

func isDigit(c byte) bool {
	return c >= '0' && c <= '9'
}

// CodeWord is the word of a code, empty for any other number.
func CodeWord(code int) string {
	if code < 0 || code >= len(codeWords) {
		return ""
	}
	return codeWords[code]
}

// CodeOf is the code of a word, -1 for any other text.
func CodeOf(word string) int {
	for code := range len(codeWords) {
		if codeWords[code] == word {
			return code
		}
	}
	return -1
}
