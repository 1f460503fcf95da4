package impl

import (
	"strconv"
	"strings"
)

const MaxWord = 12

const codeSize = 3

// maxPad bounds the result: n alone must not decide how much memory a call takes.
const maxPad = 2000

func IntText(n int) string {
	return strconv.Itoa(n)
}

// TextInt formats what it has read and compares, so that `-0`, leading zeros
// and numbers beyond the ints need no rules of their own.
func TextInt(s string) (int, bool) {
	digits, negative := strings.CutPrefix(s, "-")
	if !IsDigits(digits) {
		return 0, false
	}
	n := digitsValue(digits)
	if negative {
		n = -n
	}
	if IntText(n) != s {
		return 0, false
	}
	return n, true
}

// digitsValue wraps around beyond the ints. The value of the smallest int's
// digits wraps to the smallest int, which is its own negation.
func digitsValue(digits string) int {
	n := 0
	for _, r := range digits {
		n = n*10 + int(r-'0')
	}
	return n
}

func IsDigits(s string) bool {
	for _, r := range s {
		if !isDigit(r) {
			return false
		}
	}
	return s != ""
}

func IsWord(s string) bool {
	if s == "" || len(s) > MaxWord {
		return false
	}
	for i, r := range s {
		if !isLower(r) && (i == 0 || !isDigit(r)) {
			return false
		}
	}
	return true
}

func IsCode(s string) bool {
	for _, r := range s {
		if !isUpper(r) {
			return false
		}
	}
	return len(s) == codeSize
}

func isDigit(r rune) bool {
	return r >= '0' && r <= '9'
}

func isLower(r rune) bool {
	return r >= 'a' && r <= 'z'
}

func isUpper(r rune) bool {
	return r >= 'A' && r <= 'Z'
}

// CutAt goes by bytes and not by runes: a byte of by may stand inside a rune
// of s, and neither string has to be UTF-8.
func CutAt(s string, by string) []string {
	var parts []string
	start := 0
	for i := range len(s) {
		if strings.IndexByte(by, s[i]) >= 0 {
			parts = append(parts, s[start:i])
			start = i + 1
		}
	}
	return append(parts, s[start:])
}

func Cut(s string) []string {
	return CutAt(s, " ")
}

func Lines(s string) []string {
	parts := CutAt(s, "\n")
	last := len(parts) - 1
	if parts[last] == "" {
		return parts[:last]
	}
	return parts
}

func Join(l []string, by string) string {
	return joinAll(by, l...)
}

func joinAll(by string, parts ...string) string {
	var b strings.Builder
	for i, part := range parts {
		if i > 0 {
			b.WriteString(by)
		}
		b.WriteString(part)
	}
	return b.String()
}

func Pad(s string, n int) string {
	if len(s) >= n || n > maxPad {
		return s
	}
	return joinAll("", strings.Repeat("0", n-len(s)), s)
}
