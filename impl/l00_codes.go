package impl

import (
	"strconv"
	"strings"
)

const (
	MaxText = 65536
	MaxList = 4096
	MaxName = 40

	mostShort  = 8
	mostDigits = 18

	OK        = 0
	ErrBad    = 1
	ErrLong   = 2
	ErrForm   = 3
	ErrRange  = 4
	ErrNone   = 5
	ErrMany   = 6
	ErrFull   = 7
	ErrSum    = 8
	ErrTwice  = 9
	ErrDown   = 10
	ErrState  = 11
	ErrQuota  = 12
	ErrOrder  = 13
	ErrChain  = 14
	ErrUser   = 15
	ErrFolder = 16
	ErrName   = 17
	ErrOld    = 18
	ErrRoot   = 19
)

// codeWords stands in the order of the codes: a code is the place of its word.
var codeWords = [20]string{
	"ok", "bad", "long", "form", "range", "none", "many", "full", "sum", "twice",
	"down", "state", "quota", "order", "chain", "user", "folder", "name", "old", "root",
}

func isLetter(c byte) bool {
	return 'a' <= c && c <= 'z' || 'A' <= c && c <= 'Z' || c == '_'
}

func isDigit(c byte) bool {
	return '0' <= c && c <= '9'
}

// NameOK tells whether t is a name.
func NameOK(t string) bool {
	if len(t) == 0 || len(t) > MaxName || !isLetter(t[0]) {
		return false
	}
	for i := 1; i < len(t); i++ {
		if !isLetter(t[i]) && !isDigit(t[i]) {
			return false
		}
	}
	return true
}

func shortName(t string) bool {
	return NameOK(t) && len(t) <= mostShort
}

func allShort(names ...string) bool {
	for _, name := range names {
		if !shortName(name) {
			return false
		}
	}
	return true
}

// readNumber gives the number whose text t is: told again it must be just t.
func readNumber(t string) (int, bool) {
	n, err := strconv.Atoi(t)
	digits := strings.TrimPrefix(t, "-")
	return n, err == nil && len(digits) <= mostDigits && strconv.Itoa(n) == t
}

// CodeWord gives the word of a code, the empty text for any other number.
func CodeWord(code int) string {
	if code < 0 || code >= len(codeWords) {
		return ""
	}
	return codeWords[code]
}

// CodeOf gives the code of a word, -1 for any other text.
func CodeOf(word string) int {
	for code, known := range codeWords {
		if known == word {
			return code
		}
	}
	return -1
}
