package impl

import (
	"strconv"
	"strings"
)

// maxPadding keeps a padded text short, whatever width is asked for.
const maxPadding = 2000

func FormatInt(n int) string {
	return strconv.Itoa(n)
}

func ParseInt(s string) (int, bool) {
	n, err := strconv.Atoi(s)
	// Atoi also reads "+1", "-0" and "01", which no int is formatted as.
	if err != nil || FormatInt(n) != s {
		return 0, false
	}
	return n, true
}

func isDigit(r rune) bool {
	return '0' <= r && r <= '9'
}

func isLetter(r rune) bool {
	return 'a' <= r && r <= 'z'
}

func IsDigits(s string) bool {
	for _, r := range s {
		if !isDigit(r) {
			return false
		}
	}
	return s != ""
}

func IsName(s string) bool {
	if len(s) < 1 || len(s) > 8 {
		return false
	}
	for i, r := range s {
		if !isLetter(r) && (i == 0 || !isDigit(r)) {
			return false
		}
	}
	return true
}

// SplitAny looks at bytes, not at runes: a separator may be a part of a longer
// character.
func SplitAny(s string, by string) []string {
	var separates [256]bool
	for i := range len(by) {
		separates[by[i]] = true
	}
	parts := []string{}
	start := 0
	for i := range len(s) {
		if separates[s[i]] {
			parts = append(parts, s[start:i])
			start = i + 1
		}
	}
	return append(parts, s[start:])
}

func SplitLines(s string) []string {
	lines := SplitAny(s, "\n")
	last := len(lines) - 1
	if lines[last] == "" {
		return lines[:last]
	}
	return lines
}

// joinParts is variadic so that a text can also be joined from parts that are
// written out one by one.
func joinParts(by string, parts ...string) string {
	return strings.Join(parts, by)
}

func Join(l []string, by string) string {
	return joinParts(by, l...)
}

func PadZeros(s string, n int) string {
	if len(s) >= n || n > maxPadding {
		return s
	}
	return joinParts("", strings.Repeat("0", n-len(s)), s)
}
