package head_test

import (
	"strings"
	"testing"

	"tollgate/api"
	"tollgate/head"
)

// someHead is one that may be written; it may be too long.
func someHead(c *chance) api.Head {
	h := api.Head{Method: c.of("GET", "P", "x-y", "!#$%&'*+-.^_`|~"), Path: "/" + somePath(c), Query: c.of("", somePath(c), "?", somePath(c)+"?a")}
	host := c.of("a", "x.Y", "A-B.c.D", "0", strings.Repeat("q", api.MaxName))
	h.Host = strings.ToLower(host)
	at := c.below(1 + c.below(api.MaxFields))
	for i := range at + 1 + c.below(api.MaxFields-at) {
		f := api.Field{Name: c.of("x", "hosts", "accept", "~"), Value: c.of("", "v", "a b", "a\tb", ":", "\xff\x80", strings.Repeat("v", c.below(400)))}
		if i == at {
			f = api.Field{Name: "host", Value: host + c.of("", ":", ":1", ":65536")}
		}
		h.Fields = append(h.Fields, f)
	}
	return h
}

func somePath(c *chance) string {
	s := ""
	for range c.below(6) {
		s += c.of("a", "/", "-._~!$&'()*+,;=:@", "%4f", "%Ff", "Z9")
	}
	return s
}

// P9.3, P9.4 (E1): what is written is told, whatever stands behind; cut short anywhere it is short.
func TestBack(t *testing.T) {
	c := chance(1)
	limits := 0
	for range 1500 {
		h := someHead(&c)
		b, e := head.Write(h)
		if e == api.ErrLimit {
			limits++
			continue
		}
		if e != api.OK {
			t.Fatalf("Write(%s): %d", shown(h), e)
		}
		for _, behind := range []string{"", "x", "\r\n", "\r\n\r\n", string(b), strings.Repeat("\xff", 3000)} {
			got, at, e := head.Parse([]byte(string(b) + behind))
			if e != api.OK || at != len(b) || !alike(got, h) {
				t.Fatalf("written %q, told %s, %d, %d", b, shown(got), at, e)
			}
		}
		for n := range len(b) {
			wantRefused(t, string(b[:n]), api.ErrShort)
		}
	}
	if limits == 0 || limits > 1000 {
		t.Errorf("%d heads are too long", limits)
	}
}

// someText is a head's text, right or nearly so.
func someText(c *chance) string {
	s := c.of("GET", "GET", "x", "", "G:") + c.of(" ", " ", " ", " ", "  ", "")
	s += c.of("/", "/"+somePath(c), "/"+somePath(c)+"?"+somePath(c), "http://q", "http://q.R:80/"+somePath(c), "http://Q?"+somePath(c), "http://q:/?", "http:///", "*", "/%4", "")
	s += c.of(" ", " ", " ", " ", "  ") + c.of("HTTP/1.1", "HTTP/1.1", "HTTP/1.1", "HTTP/1.1", "HTTP/1.0") + c.of("\r\n", "\r\n", "\r\n", "\r\n", "\n", "\r\r\n")
	fields, name, value := c.below(5), []string{"x", "Y", "accept-Z", "hosts", "~"}, []string{"", "v", "V w", "\xe4\xff", "a:b", ","}
	if c.below(4) == 0 {
		fields = api.MaxFields - 3 + c.below(6)
	} else {
		name = append(name, "x", "x", "x", c.of("", " ", "host", "x "))
		value = append(value, "v", "v", "v", c.of("\r", "\x7f", "\x00", "\n"))
	}
	at := c.below(fields + 1)
	for i := range fields + 1 {
		if i == at && c.below(10) > 0 {
			s += c.of("host", "Host", "HOST") + ":" + c.of("", " ", "\t", " \t ") + c.of("a", "B.c", "a:80", "a:", "x-y.Z:12345", "a.", "a:123456") + c.of("", " ", "\t") + "\r\n"
			continue
		}
		s += c.of(name...) + ":" + c.of("", " ", "\t\t") + c.of(value...) + c.of("", " \t") + "\r\n"
	}
	return s + "\r\n" + c.of("", "", "x", "\r\n\r\n")
}

// P9.1, P9.6 (E5): beside expressions, with bytes that are changed, added, left out.
func TestParseScript(t *testing.T) {
	c := chance(2)
	var told [api.ErrWeight + 1]int
	for range 40000 {
		b := []byte(someText(&c))
		for range c.below(3) * c.below(2) {
			i := c.below(len(b))
			switch c.below(4) {
			case 0:
				b[i] = byte(c.below(256))
			case 1:
				b = append(b[:i], b[i+1:]...)
			case 2:
				b = append(b[:i+1], b[i:]...)
			case 3:
				b = b[:i]
			}
			if len(b) == 0 {
				break
			}
		}
		e := wantAsModel(t, b)
		told[e]++
		if e == api.OK {
			wantToldAgain(t, b)
		}
	}
	for _, e := range []api.Errno{api.OK, api.ErrShort, api.ErrForm, api.ErrLimit} {
		if told[e] < 200 {
			t.Errorf("error %d is told %d times", e, told[e])
		}
	}
}

// wantToldAgain: what is told is written, and told again, where the target's host is the field's.
func wantToldAgain(t *testing.T, b []byte) {
	t.Helper()
	h, _, _ := head.Parse(b)
	own := ""
	for _, f := range h.Fields {
		if f.Name == "host" {
			own, _ = head.Host(f.Value)
		}
	}
	written, e := head.Write(h)
	if own != h.Host {
		if e != api.ErrForm {
			t.Fatalf("told %s, written with error %d", shown(h), e)
		}
		return
	}
	again, at, e2 := head.Parse(written)
	if e != api.OK || e2 != api.OK || at != len(written) || !alike(h, again) {
		t.Fatalf("told %s, written %q, %d, told again %s, %d", shown(h), written, e, shown(again), e2)
	}
}

// P9.6: a host of the target that is not the field's is told, but there is no head of these words to be written.
func TestTargetsHostIsNotWritten(t *testing.T) {
	h, _, _ := head.Parse([]byte("GET http://q HTTP/1.1\r\nHost: r\r\n\r\n"))
	wantUnwritten(t, h, api.ErrForm)
	h, _, _ = head.Parse([]byte("GET http://q:80/x?y HTTP/1.1\r\nHost: Q\r\n\r\n"))
	wantWritten(t, h, "GET /x?y HTTP/1.1\r\nhost: Q\r\n\r\n")
}

// P9.6: with the space behind each : a head may be longer than it was; then it is too long.
func TestToldIsTooLong(t *testing.T) {
	h, _, e := head.Parse([]byte(filled(api.MaxHead - 1)))
	if b, e2 := head.Write(h); e != api.OK || e2 != api.OK || len(b) != api.MaxHead {
		t.Errorf("told with error %d, written with error %d, %d bytes", e, e2, len(b))
	}
	h, _, _ = head.Parse([]byte(filled(api.MaxHead)))
	wantUnwritten(t, h, api.ErrLimit)
}

// P9.5: letters' size in names and hosts, and blanks, change nothing but the value as it stands.
func TestPlayNoPart(t *testing.T) {
	c := chance(3)
	for range 2000 {
		h := someHead(&c)
		b, e := head.Write(h)
		if e != api.OK {
			continue
		}
		lines := strings.Split(string(b), "\r\n")
		for i := range h.Fields {
			name, value, _ := strings.Cut(lines[i+1], ": ")
			if h.Fields[i].Name == "host" {
				value = c.of(strings.ToUpper(value), strings.ToLower(value))
				h.Fields[i].Value = value
			}
			lines[i+1] = c.of(strings.ToUpper(name), strings.ToUpper(name[:1])+name[1:]) + ":" + c.of("", " ", "\t \t") + value + c.of("", " ", "\t")
		}
		text := strings.Join(lines, "\r\n")
		if len(text) <= api.MaxHead {
			wantHead(t, text, h)
		}
	}
}
