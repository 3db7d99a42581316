package head

import "strings"

// kind is a set of what a byte may stand in.
type kind int

const (
	inPort kind = 1 << iota
	inEscape
	inPart // of a host
	inToken
	inPath
	inQuery
	inValue
)

const (
	escape = '%'
	blanks = "\t "
)

// kindsOf takes a rune, so that no letter beyond a byte is taken for the byte that it ends with.
func kindsOf(c rune) kind {
	var k kind
	switch {
	case strings.ContainsRune("#%^`|", c):
		return inToken | inValue
	case between(c, '0', '9'):
		k |= inPort
		fallthrough
	case between(c, 'a', 'f'), between(c, 'A', 'F'):
		k |= inEscape
		fallthrough
	case between(c, 'a', 'z'), between(c, 'A', 'Z'), c == '-':
		k |= inPart
		fallthrough
	case strings.ContainsRune("!$&'*+._~", c):
		k |= inToken
		fallthrough
	case strings.ContainsRune("/(),;=:@", c):
		k |= inPath
		fallthrough
	case c == '?':
		k |= inQuery
		fallthrough
	case c == '\t', between(c, ' ', '~'), c > '\x7f':
		k |= inValue
	}
	return k
}

func between(c, least, most rune) bool { return least <= c && c <= most }

func is(c byte, k kind) bool { return kindsOf(rune(c))&k != 0 }

func all(s string, k kind) bool {
	for i := range len(s) {
		if !is(s[i], k) {
			return false
		}
	}
	return true
}

func isToken(s string) bool { return s != "" && all(s, inToken) }

func isPath(s string) bool { return strings.HasPrefix(s, "/") && allEscaped(s, inPath) }

func isQuery(s string) bool { return allEscaped(s, inQuery) }

// allEscaped lets an escape in too; the digits behind it need no leap, since they may stand alone as well.
func allEscaped(s string, k kind) bool {
	for i := range len(s) {
		if s[i] == escape && !isEscape(s[i+1:]) || s[i] != escape && !is(s[i], k) {
			return false
		}
	}
	return true
}

func isEscape(behind string) bool { return len(behind) >= 2 && all(behind[:2], inEscape) }

func isValueOrEmpty(s string) bool { return all(s, inValue) && s == strings.Trim(s, blanks) }
