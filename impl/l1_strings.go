package impl

import (
	"strconv"
	"strings"
)

const MaxString = 4000
const MaxDecimal = 999999

const (
	checksumStart   = 7
	checksumFactor  = 41
	checksumModulus = 999979
	checksumMark    = "#"
)

// FormatInt returns the decimal representation of n and true. If n is outside
// -MaxDecimal..MaxDecimal it returns the empty string and false. The representation has no
// leading zeros; a negative number starts with `-`.
func FormatInt(n int) (string, bool) {
	if n < -MaxDecimal || n > MaxDecimal {
		return "", false
	}
	return strconv.Itoa(n), true
}

// ParseInt is the inverse of FormatInt: it returns the integer n for which FormatInt(n) is s,
// and true. For any other string, including strings with leading zeros, a leading `+`, or `-0`,
// it returns 0 and false.
func ParseInt(s string) (int, bool) {
	n, sign := 0, 1
scan:
	for i := range len(s) {
		switch c := s[i]; {
		case i == 0 && c == '-':
			sign = -1
		case '0' <= c && c <= '9' && n <= MaxDecimal:
			n = 10*n + int(c-'0')
		default:
			break scan
		}
	}
	n *= sign
	// The scan is lenient on purpose: a number has one text only, and comparing with that text
	// rejects leading zeros, `-0` and whatever the scan has not read.
	text, ok := FormatInt(n)
	if !ok || text != s {
		return 0, false
	}
	return n, true
}

// SplitString splits s, which must have at most MaxString bytes, at every occurrence of the
// single-byte separator sep, and returns the substrings between the separators in order, and
// true. The result has one element more than s has separators, so the empty string yields one
// empty element. If s is too long or sep does not consist of exactly one byte, it returns an
// empty slice and false.
func SplitString(s string, sep string) ([]string, bool) {
	if len(s) > MaxString || len(sep) != 1 {
		return []string{}, false
	}
	parts := make([]string, 0, strings.Count(s, sep)+1)
	for part := range strings.SplitSeq(s, sep) {
		// A substring would share the memory of s.
		parts = append(parts, strings.Clone(part))
	}
	return parts, true
}

// JoinStrings is the inverse of SplitString: it returns the elements of parts concatenated with
// sep between consecutive elements, and true. It returns the empty string and false if parts is
// empty, if sep does not consist of exactly one byte, if an element contains sep, or if the
// result would have more than MaxString bytes.
func JoinStrings(parts []string, sep string) (string, bool) {
	if len(parts) == 0 || len(sep) != 1 {
		return "", false
	}
	length := len(parts) - 1
	for _, part := range parts {
		length += len(part)
		if length > MaxString || strings.Contains(part, sep) {
			return "", false
		}
	}
	// strings.Join returns a single element as it is, which would share its memory.
	return strings.Clone(strings.Join(parts, sep)), true
}

// LessString reports whether a is lexicographically less than b, comparing byte by byte; a
// proper prefix is less than the longer string.
func LessString(a string, b string) bool { return a < b }

// Checksum returns the checksum of s and true. The checksum starts at 7 and is updated for
// every byte c of s, in order, to (41*h + c + 1) modulo 999979. If s has more than MaxString
// bytes, it returns 0 and false.
func Checksum(s string) (int, bool) {
	if len(s) > MaxString {
		return 0, false
	}
	h := checksumStart
	for i := range len(s) {
		h = (checksumFactor*h + int(s[i]) + 1) % checksumModulus
	}
	return h, true
}

// AppendChecksum returns s followed by `#` and the decimal checksum of s, and true. It returns
// the empty string and false if s contains `#` or if s or the result has more than MaxString
// bytes.
func AppendChecksum(s string) (string, bool) {
	sum, ok := Checksum(s)
	if !ok || strings.Contains(s, checksumMark) {
		return "", false
	}
	result := s + checksumMark + strconv.Itoa(sum)
	if len(result) > MaxString {
		return "", false
	}
	return result, true
}

// VerifyChecksum is the inverse of AppendChecksum: it returns the string t for which
// AppendChecksum(t) is s, and true. If there is no such string, it returns the empty string and
// false.
func VerifyChecksum(s string) (string, bool) {
	// A checksummed text has no mark of its own, so that only the first one can end it.
	text, _, _ := strings.Cut(s, checksumMark)
	whole, ok := AppendChecksum(text)
	if !ok || whole != s {
		return "", false
	}
	return strings.Clone(text), true
}
