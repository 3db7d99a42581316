package head_test

import (
	"bytes"
	"fmt"
	"regexp"
	"slices"
	"strings"
	"testing"

	"tollgate/api"
	"tollgate/head"
)

// chance is a row of numbers that is the same each time.
type chance uint64

func (c *chance) below(n int) int {
	*c = *c*6364136223846793005 + 1442695040888963407
	return int(uint64(*c) >> 33 % uint64(n))
}

func (c *chance) of(l ...string) string { return l[c.below(len(l))] }

// The words of the document's grammar, as expressions.
const (
	tokenForm = "[A-Za-z0-9!#$%&'*+\\-.^_`|~]+"
	pathByte  = "[A-Za-z0-9/\\-._~!$&'()*+,;=:@]|%[0-9A-Fa-f]{2}"
	pathForm  = "/(?:" + pathByte + ")*"
	queryForm = "(?:" + pathByte + "|\\?)*"
	hostForm  = "[A-Za-z0-9\\-]+(?:\\.[A-Za-z0-9\\-]+)*"
	portForm  = "(?::[0-9]{0,5})?"
	valueForm = "[\t\x20-\x7e[:^ascii:]]*"
	fieldForm = "(" + tokenForm + "):[\t ]*(" + valueForm + ")\r\n"
	headForm  = "\\A(" + tokenForm + ") (?:(" + pathForm + ")|http://(" + hostForm + ")" + portForm + "(" + pathForm + ")?)(?:\\?(" + queryForm + "))? HTTP/1\\.1\r\n((?:" + fieldForm + ")*)\r\n\\z"
)

var (
	headWords  = regexp.MustCompile(headForm)
	fieldWords = regexp.MustCompile(fieldForm)
	hostWords  = regexp.MustCompile("\\A(" + hostForm + ")" + portForm + "\\z")
)

func modelHost(s string) (string, bool) {
	m := hostWords.FindStringSubmatch(s)
	if m == nil || len(m[1]) > api.MaxName {
		return "", false
	}
	return strings.ToLower(m[1]), true
}

// model is Parse by expressions.
func model(b []byte) (api.Head, int, api.Errno) {
	end := -1
	for i := 4; i <= len(b) && i <= api.MaxHead && end < 0; i++ {
		if string(b[i-4:i]) == "\r\n\r\n" {
			end = i
		}
	}
	if end < 0 && len(b) < api.MaxHead {
		return api.Head{}, 0, api.ErrShort
	}
	if end < 0 {
		return api.Head{}, 0, api.ErrLimit
	}
	m := headWords.FindStringSubmatch(string(b[:end]))
	if m == nil || len(m[3]) > api.MaxName {
		return api.Head{}, 0, api.ErrForm
	}
	h := api.Head{Method: m[1], Path: m[2] + m[4], Host: strings.ToLower(m[3]), Query: m[5]}
	if h.Path == "" {
		h.Path = "/"
	}
	hosts := 0
	for _, f := range fieldWords.FindAllStringSubmatch(m[6], -1) {
		h.Fields = append(h.Fields, api.Field{Name: strings.ToLower(f[1]), Value: strings.TrimRight(f[2], "\t ")})
		if strings.EqualFold(f[1], "host") {
			hosts++
			host, ok := modelHost(h.Fields[len(h.Fields)-1].Value)
			if !ok {
				return api.Head{}, 0, api.ErrForm
			}
			if h.Host == "" {
				h.Host = host
			}
		}
	}
	if hosts != 1 {
		return api.Head{}, 0, api.ErrForm
	}
	if len(h.Fields) > api.MaxFields {
		return api.Head{}, 0, api.ErrLimit
	}
	return h, end, api.OK
}

func shown(h api.Head) string {
	return fmt.Sprintf("%q %q ? %q at %q, fields %q", h.Method, h.Path, h.Query, h.Host, h.Fields)
}

func alike(a, b api.Head) bool {
	return a.Method == b.Method && a.Path == b.Path && a.Query == b.Query && a.Host == b.Host && slices.Equal(a.Fields, b.Fields)
}

func wantHead(t *testing.T, text string, want api.Head) {
	t.Helper()
	h, at, e := head.Parse([]byte(text))
	if e != api.OK || at != len(text) || !alike(h, want) {
		t.Errorf("Parse(%.300q): %.600s, %d, %d; want\n%.600s, %d", text, shown(h), at, e, shown(want), len(text))
	}
}

// wantRefused: that error, and beside it zero values.
func wantRefused(t *testing.T, text string, want api.Errno) {
	t.Helper()
	h, at, e := head.Parse([]byte(text))
	if e != want || at != 0 || !alike(h, api.Head{}) {
		t.Errorf("Parse(%.300q): %.600s, %d, %d; want error %d", text, shown(h), at, e, want)
	}
}

func wantWritten(t *testing.T, h api.Head, want string) {
	t.Helper()
	b, e := head.Write(h)
	if e != api.OK || string(b) != want {
		t.Errorf("Write(%.600s): %.600q, %d; want %.600q", shown(h), b, e, want)
	}
}

func wantUnwritten(t *testing.T, h api.Head, want api.Errno) {
	t.Helper()
	b, e := head.Write(h)
	if e != want || len(b) != 0 {
		t.Errorf("Write(%.600s): %.300q, %d; want error %d", shown(h), b, e, want)
	}
}

// wantAsModel: Parse tells what the model does, and leaves the bytes as they are.
func wantAsModel(t *testing.T, b []byte) api.Errno {
	t.Helper()
	before := bytes.Clone(b)
	h, at, e := head.Parse(b)
	want, wantAt, wantE := model(b)
	if e != wantE || at != wantAt || !alike(h, want) {
		t.Fatalf("Parse(%.600q): %.600s, %d, %d; want\n%.600s, %d, %d", b, shown(h), at, e, shown(want), wantAt, wantE)
	}
	if !bytes.Equal(b, before) {
		t.Fatalf("Parse changed %.600q to %.600q", before, b)
	}
	return e
}
