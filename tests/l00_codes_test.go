package tests

import (
	"strings"
	"testing"

	"loop.example/g00092/impl"
)

var words = []string{"ok", "bad", "long", "form", "syntax", "range", "none", "many", "lawless"}

func TestConstants(t *testing.T) {
	got := []int{
		impl.MaxText, impl.MaxList, impl.MaxName, impl.MaxSum, impl.MaxStr,
		impl.OK, impl.ErrBad, impl.ErrLong, impl.ErrForm, impl.ErrSyntax, impl.ErrRange, impl.ErrNone, impl.ErrMany, impl.ErrLawless,
	}
	want := []int{65536, 4096, 40, 65521, 12, 0, 1, 2, 3, 4, 5, 6, 7, 8}
	for i := range want {
		if got[i] != want[i] {
			t.Errorf("constant %d is %d, not %d", i, got[i], want[i])
		}
	}
}

func TestCodeWord(t *testing.T) {
	for code, word := range words {
		if got := impl.CodeWord(code); got != word {
			t.Errorf("CodeWord(%d) = %q, not %q", code, got, word)
		}
	}
	for _, code := range []int{-1, -2, 9, 10, 255, 256, 1 << 32, leastInt, leastInt + 1, greatestInt} {
		if got := impl.CodeWord(code); got != "" {
			t.Errorf("CodeWord(%d) = %q", code, got)
		}
	}
}

func TestCodeOf(t *testing.T) {
	for code, word := range words {
		if got := impl.CodeOf(word); got != code {
			t.Errorf("CodeOf(%q) = %d, not %d", word, got, code)
		}
	}
	wrong := []string{
		"", " ", "OK", "Bad", "o", "okk", "ok ", " ok", "ok\x00", "lawles", "lawlessness", "error", "0", "-1", "\xff",
		strings.Repeat("ok", impl.MaxText/2), strings.Repeat("k", impl.MaxText+1), "ok" + strings.Repeat(" ", 2*impl.MaxText),
	}
	for _, word := range wrong {
		if got := impl.CodeOf(word); got != -1 {
			t.Errorf("CodeOf of a text of %d bytes (%.12q) = %d", len(word), word, got)
		}
	}
}

func TestNameOK(t *testing.T) {
	long := strings.Repeat("n", impl.MaxName)
	right := []string{"a", "z", "A", "Z", "_", "_0", "a9", "Zz_09", "__", long, "_" + long[1:], long[:39] + "9"}
	for _, name := range right {
		if !impl.NameOK(name) {
			t.Errorf("NameOK(%q) = false", name)
		}
	}
	wrong := []string{
		"", "0", "9a", " a", "a ", "a b", "a-b", "a.b", "a\n", "\x00", "a\x00", "é", "aé", "a\xff",
		long + "n", long + long, strings.Repeat("n", impl.MaxText), strings.Repeat("n", impl.MaxText+1), long[:39] + "-", "-" + long[:39],
	}
	for _, name := range wrong {
		if impl.NameOK(name) {
			t.Errorf("NameOK of a text of %d bytes (%.45q) = true", len(name), name)
		}
	}
}

func TestNameOKByEachByte(t *testing.T) {
	const letters = "abcdefghijklmnopqrstuvwxyzABCDEFGHIJKLMNOPQRSTUVWXYZ_"
	const others = letters + "0123456789"
	for c := range 256 {
		one := string([]byte{byte(c)})
		if got, want := impl.NameOK(one), strings.Contains(letters, one); got != want {
			t.Errorf("NameOK(%q) = %v", one, got)
		}
		for _, name := range []string{"a" + one, "a" + one + "b", "ab" + one} {
			if got, want := impl.NameOK(name), strings.Contains(others, one); got != want {
				t.Errorf("NameOK(%q) = %v", name, got)
			}
		}
	}
}
