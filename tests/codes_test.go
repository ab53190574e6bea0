package tests

import (
	"math"
	"strings"
	"testing"

	"loop.example/g00601/impl"
)

func TestLimitsOfChapterOne(t *testing.T) {
	if impl.MaxText != 65536 || impl.MaxList != 4096 || impl.MaxName != 40 {
		t.Error(impl.MaxText, impl.MaxList, impl.MaxName)
	}
}

func TestCodesHaveTheirNumbersAndWords(t *testing.T) {
	for number, c := range []struct {
		code int
		word string
	}{
		{impl.OK, "ok"}, {impl.ErrBad, "bad"}, {impl.ErrLong, "long"}, {impl.ErrForm, "form"}, {impl.ErrRange, "range"},
		{impl.ErrNone, "none"}, {impl.ErrMany, "many"}, {impl.ErrFull, "full"}, {impl.ErrSize, "size"}, {impl.ErrThere, "there"},
		{impl.ErrVersion, "version"}, {impl.ErrFault, "fault"}, {impl.ErrHeld, "held"}, {impl.ErrStale, "stale"}, {impl.ErrLate, "late"},
		{impl.ErrBelow, "below"}, {impl.ErrGap, "gap"}, {impl.ErrDamaged, "damaged"}, {impl.ErrIdle, "idle"}, {impl.ErrKey, "key"},
	} {
		if c.code != number {
			t.Errorf("the code of %q is %d, want %d", c.word, c.code, number)
		}
		if got := impl.CodeWord(number); got != c.word {
			t.Errorf("CodeWord(%d) = %q, want %q", number, got, c.word)
		}
		if got := impl.CodeOf(c.word); got != number {
			t.Errorf("CodeOf(%q) = %d, want %d", c.word, got, number)
		}
	}
}

func TestNumbersAndTextsThatAreNoCodes(t *testing.T) {
	for _, code := range []int{-1, 20, 21, 255, 256, 1 << 32, math.MinInt, math.MaxInt} {
		if got := impl.CodeWord(code); got != "" {
			t.Errorf("CodeWord(%d) = %q", code, got)
		}
	}
	for _, word := range []string{"", "OK", "Ok", "ok ", " ok", "o", "okk", "bad\x00", "0", "ErrBad", text(impl.MaxText), text(impl.MaxText + 1), strings.Repeat("ok", impl.MaxText)} {
		if got := impl.CodeOf(word); got != -1 {
			t.Errorf("CodeOf of %d bytes = %d", len(word), got)
		}
	}
}

func TestNames(t *testing.T) {
	for _, name := range []string{"a", "z", "A", "Z", "_", "__", "a0", "_9", "Az_09", text(impl.MaxName)} {
		if !impl.NameOK(name) {
			t.Errorf("%q is a name", name)
		}
	}
	for _, name := range []string{"", "0", "9a", "-a", "a-", "a b", " a", "a ", "a\n", "a\x00", "é", "aé", text(impl.MaxName + 1), text(impl.MaxText), text(impl.MaxText + 1)} {
		if impl.NameOK(name) {
			t.Errorf("%.50q is no name", name)
		}
	}
}

func TestEachByteInNames(t *testing.T) {
	for b := range 256 {
		digit := b >= '0' && b <= '9'
		letter := b >= 'a' && b <= 'z' || b >= 'A' && b <= 'Z' || b == '_'
		if got := impl.NameOK(string([]byte{byte(b)})); got != letter {
			t.Errorf("a name of byte %d: %v", b, got)
		}
		if got := impl.NameOK(string([]byte{'a', byte(b)})); got != (letter || digit) {
			t.Errorf("a name that ends with byte %d: %v", b, got)
		}
	}
}
