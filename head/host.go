package head

import (
	"strings"

	"tollgate/api"
)

const mostPort = 5

// Host is the host of a host's text.
func Host(s string) (string, bool) {
	host, port, _ := strings.Cut(s, ":")
	if len(port) > mostPort || !all(port, inPort) || !isHost(host) {
		return "", false
	}
	return strings.ToLower(host), true
}

func isHost(s string) bool {
	if len(s) > api.MaxName {
		return false
	}
	begun := false // the part has a letter
	for _, c := range s {
		dot := c == '.'
		if dot && !begun || !dot && kindsOf(c)&inPart == 0 {
			return false
		}
		begun = !dot
	}
	return begun
}
