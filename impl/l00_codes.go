package impl

import (
	"strconv"
	"strings"
)

const (
	MaxText = 65536
	MaxList = 4096
	MaxName = 40
)

const (
	OK = iota
	ErrBad
	ErrLong
	ErrForm
	ErrRange
	ErrNone
	ErrMany
	ErrFull
	ErrSize
	ErrThere
	ErrVersion
	ErrFault
	ErrHeld
	ErrStale
	ErrLate
	ErrBelow
	ErrGap
	ErrDamaged
	ErrIdle
	ErrKey
)

var codeWords = [...]string{
	OK:         "ok",
	ErrBad:     "bad",
	ErrLong:    "long",
	ErrForm:    "form",
	ErrRange:   "range",
	ErrNone:    "none",
	ErrMany:    "many",
	ErrFull:    "full",
	ErrSize:    "size",
	ErrThere:   "there",
	ErrVersion: "version",
	ErrFault:   "fault",
	ErrHeld:    "held",
	ErrStale:   "stale",
	ErrLate:    "late",
	ErrBelow:   "below",
	ErrGap:     "gap",
	ErrDamaged: "damaged",
	ErrIdle:    "idle",
	ErrKey:     "key",
}

// NameOK reports whether t is a name.
func NameOK(t string) bool {
	if len(t) < 1 || len(t) > MaxName || isDigit(t[0]) {
		return false
	}
	for i := range len(t) {
		if !isLetter(t[i]) && !isDigit(t[i]) {
			return false
		}
	}
	return true
}

// CodeWord is the word of a code, and the empty text for a number that is none.
func CodeWord(code int) string {
	if !isCode(code) {
		return ""
	}
	return codeWords[code]
}

// CodeOf is the code of a word, and -1 for a text that is none.
func CodeOf(word string) int {
	for code, w := range codeWords {
		if w == word {
			return code
		}
	}
	return -1
}

// isCode reports whether the table has that code.
func isCode(code int) bool {
	return within(code, 0, len(codeWords)-1)
}

func isLetter(b byte) bool {
	return b >= 'a' && b <= 'z' || b >= 'A' && b <= 'Z' || b == '_'
}

func isDigit(b byte) bool {
	return b >= '0' && b <= '9'
}

func anyTooLong(texts ...string) bool {
	for _, t := range texts {
		if len(t) > MaxText {
			return true
		}
	}
	return false
}

func within(n, low, high int) bool {
	return low <= n && n <= high
}

// maxDigits is how many digits a number's text has at most.
const maxDigits = 18

// readNumber leans on strconv writing each number in one way only: a text that it writes otherwise has a nought or a sign too many.
func readNumber(t string) (int, bool) {
	n, err := strconv.Atoi(t)
	if err != nil || strconv.Itoa(n) != t || len(strings.TrimPrefix(t, "-")) > maxDigits {
		return 0, false
	}
	return n, true
}

func numbersText(numbers ...int) string {
	texts := make([]string, len(numbers))
	for i, n := range numbers {
		texts[i] = strconv.Itoa(n)
	}
	return strings.Join(texts, ",")
}

// readNumbers reads a text of just as many numbers as there are places for them.
func readNumbers(t string, places ...*int) bool {
	parts := strings.SplitN(t, ",", len(places)+1)
	if len(parts) != len(places) {
		return false
	}
	for i, part := range parts {
		n, ok := readNumber(part)
		if !ok {
			return false
		}
		*places[i] = n
	}
	return true
}
