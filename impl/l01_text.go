package impl

import (
	"strconv"
	"strings"
)

func FormatInt(n int) string { return strconv.Itoa(n) }

func ParseInt(s string) (int, bool) {
	n, err := strconv.Atoi(s)
	// Atoi also accepts a plus sign, leading zeros and -0; only the text
	// that FormatInt writes is to be accepted.
	if err != nil || FormatInt(n) != s {
		return 0, false
	}
	return n, true
}

func IsDigits(s string) bool {
	for _, r := range s {
		if !isDigit(r) {
			return false
		}
	}
	return s != ""
}

func IsName(s string) bool {
	const maxName = 8
	if s == "" || len(s) > maxName {
		return false
	}
	for i, r := range s {
		if !isLetter(r) && (i == 0 || !isDigit(r)) {
			return false
		}
	}
	return true
}

func isDigit(r rune) bool { return '0' <= r && r <= '9' }

func isLetter(r rune) bool { return 'a' <= r && r <= 'z' }

func SplitAny(s string, by string) []string {
	var parts []string
	start := 0
	// Bytes and not runes are compared: by may hold single bytes of a
	// longer sequence, or bytes that are no UTF-8 at all.
	for i := range len(s) {
		if strings.IndexByte(by, s[i]) >= 0 {
			parts = append(parts, s[start:i])
			start = i + 1
		}
	}
	return append(parts, s[start:])
}

func SplitLines(s string) []string {
	lines := SplitAny(s, "\n")
	last := len(lines) - 1
	// What follows the last newline is a line only if it has any text.
	if lines[last] == "" {
		return lines[:last]
	}
	return lines
}

func Join(l []string, by string) string { return joinWith(by, l...) }

func joinWith(by string, parts ...string) string { return strings.Join(parts, by) }

func PadZeros(s string, n int) string {
	const maxPadded = 2000
	if n > maxPadded || len(s) >= n {
		return s
	}
	return strings.Repeat("0", n-len(s)) + s
}
