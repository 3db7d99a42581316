package head

import (
	"strings"

	"tollgate/api"
)

// Write is a head's bytes.
func Write(h api.Head) ([]byte, api.Errno) {
	if !mayBe(h) {
		return nil, api.ErrForm
	}
	if len(h.Fields) > api.MaxFields {
		return nil, api.ErrLimit
	}
	b := appended(h)
	if len(b) > api.MaxHead {
		return nil, api.ErrLimit
	}
	return b, api.OK
}

func mayBe(h api.Head) bool {
	if !isToken(h.Method) || !isPath(h.Path) || !isQuery(h.Query) {
		return false
	}
	for _, f := range h.Fields {
		if !isToken(f.Name) || f.Name != strings.ToLower(f.Name) || !isValueOrEmpty(f.Value) {
			return false
		}
	}
	host, ok := hostOf(h.Fields)
	return ok && h.Host == host
}

func appended(h api.Head) []byte {
	target := h.Path
	if h.Query != "" {
		target += "?" + h.Query
	}
	b := []byte(h.Method + " " + target + " " + version + lineEnd)
	for _, f := range h.Fields {
		b = append(b, f.Name+": "+f.Value+lineEnd...)
	}
	return append(b, lineEnd...)
}
