package head_test

import (
	"strings"
	"testing"

	"tollgate/api"
	"tollgate/head"
)

const (
	letters = "ABCDEFGHIJKLMNOPQRSTUVWXYZabcdefghijklmnopqrstuvwxyz"
	digits  = "0123456789"
)

func hostField(value string) []api.Field { return []api.Field{{Name: "host", Value: value}} }

// P9.1: the document's examples.
func TestParseExamples(t *testing.T) {
	wantHead(t, "GET /a?b HTTP/1.1\r\nHost: X.y:80\r\n\r\n",
		api.Head{Method: "GET", Path: "/a", Query: "b", Host: "x.y", Fields: hostField("X.y:80")})
	wantHead(t, "GET http://q HTTP/1.1\r\nHost: r\r\n\r\n",
		api.Head{Method: "GET", Path: "/", Host: "q", Fields: hostField("r")})
	wantRefused(t, "GET / HTTP/1.1\r\nhost: a\r\n x: b\r\n\r\n", api.ErrForm)
	wantRefused(t, "GET / HTTP/1.1\r\n host: a\r\n\r\n", api.ErrForm)
}

// P9.1: the place is behind the head, whatever stands there.
func TestParsePlace(t *testing.T) {
	const text = "GET / HTTP/1.1\r\nhost: a\r\n\r\n"
	for _, behind := range []string{"", "x", "\r\n\r\n", "\r\n", "GET / HTTP/1.1\r\n\r\n", strings.Repeat("x", 5000)} {
		h, at, e := head.Parse([]byte(text + behind))
		if e != api.OK || at != len(text) || h.Host != "a" || len(h.Fields) != 1 {
			t.Errorf("with %.20q behind: %s, %d, %d", behind, shown(h), at, e)
		}
	}
}

func asked(request string) string { return request + "\r\nhost: f\r\n\r\n" }

// P9.1: targets: a path, or a host and perhaps a path; perhaps a query.
func TestParseTargets(t *testing.T) {
	for _, x := range []struct{ target, host, path, query string }{
		{"/", "f", "/", ""},
		{"/?", "f", "/", ""},
		{"/??", "f", "/", "?"},
		{"/?a?b", "f", "/", "a?b"},
		{"/?/", "f", "/", "/"},
		{"//", "f", "//", ""},
		{"//a/b", "f", "//a/b", ""},
		{"/http://a", "f", "/http://a", ""},
		{"/a:b@c", "f", "/a:b@c", ""},
		{"/%41%0a%fF%99", "f", "/%41%0a%fF%99", ""},
		{"/a?%41%0a%fF%99", "f", "/a", "%41%0a%fF%99"},
		{"/%41%", "", "", ""},
		{"http://q", "q", "/", ""},
		{"http://q?", "q", "/", ""},
		{"http://q?z", "q", "/", "z"},
		{"http://q?http://r/", "q", "/", "http://r/"},
		{"http://q/", "q", "/", ""},
		{"http://q/?", "q", "/", ""},
		{"http://q//", "q", "//", ""},
		{"http://q/a/b?c/d", "q", "/a/b", "c/d"},
		{"http://Q.R:80/a", "q.r", "/a", ""},
		{"http://q:", "q", "/", ""},
		{"http://q:?x", "q", "/", "x"},
		{"http://q:12345/a:b", "q", "/a:b", ""},
	} {
		if x.path == "" {
			wantRefused(t, asked("GET "+x.target+" HTTP/1.1"), api.ErrForm)
			continue
		}
		wantHead(t, asked("GET "+x.target+" HTTP/1.1"), api.Head{Method: "GET", Path: x.path, Query: x.query, Host: x.host, Fields: hostField("f")})
	}
}

// P9.1: requests that are none.
func TestParseNoRequest(t *testing.T) {
	for _, target := range []string{
		"", "*", "a", "?", "?a", "a/b", ".", "http:", "http:/", "http://", "http:///", "http:///a", "http://?a", "http://:80/", "http://a..b/", "http://a:123456/", "http://a:x", "http://a@b/", "http://a%41/",
		"HTTP://a", "Http://a", "hTTP://a/", "https://a", "http:a", "http//a", "//http://a b", "http://a b", "http://a/%", "http://a?%4", "a:80",
		"/%", "/%4", "/%4g", "/%g4", "/%%41", "/a%", "/?%", "/?%4", "/?%4g", "/?%g4", "/%4?1", "/%?41", "/#", "/a#b", "/?#", "/a\"", "/<", "/[", "/\\", "/^", "/`", "/{", "/|", "/\t", "/a\x00", "/\x7f", "/\xe4", "/?\xe4", "/\r", "/\n", "http://" + strings.Repeat("a", api.MaxName+1),
	} {
		wantRefused(t, asked("GET "+target+" HTTP/1.1"), api.ErrForm)
	}
	for _, line := range []string{
		"", " ", "  ", "GET", "GET ", "GET /", "GET / ", "GET  / HTTP/1.1", "GET /  HTTP/1.1", " GET / HTTP/1.1", "GET / HTTP/1.1 ", "GET / HTTP/1.1 x", "GET / / HTTP/1.1", "GET\t/ HTTP/1.1", "GET /\tHTTP/1.1", " / HTTP/1.1", "/ HTTP/1.1", "GET HTTP/1.1",
		"GET / HTTP/1.0", "GET / HTTP/1.2", "GET / HTTP/2", "GET / http/1.1", "GET / HTTP/1.1\r", "GET / HTTP/1.1\n", "GET / HTTP/1.11", "GET / HTTP/1.", "GET / HTTP/01.1", "GET /\r HTTP/1.1", "G(T / HTTP/1.1", "G:T / HTTP/1.1", "\r\nGET / HTTP/1.1", "\nGET / HTTP/1.1",
	} {
		wantRefused(t, asked(line), api.ErrForm)
	}
}

// P9.1: of one byte in each part, all 256.
func TestParseBytes(t *testing.T) {
	const token = letters + digits + "!#$%&'*+-.^_`|~"
	const path = letters + digits + "/-._~!$&'()*+,;=:@"
	for c := range 256 {
		b := string([]byte{byte(c)})
		ask := func(may bool, text string, want api.Head) {
			t.Helper()
			if may {
				wantHead(t, text, want)
			} else {
				wantRefused(t, text, api.ErrForm)
			}
		}
		ask(strings.Contains(token, b), asked(b+" / HTTP/1.1"), api.Head{Method: b, Path: "/", Host: "f", Fields: hostField("f")})
		ask(strings.Contains(token, b), asked("G"+b+"T / HTTP/1.1"), api.Head{Method: "G" + b + "T", Path: "/", Host: "f", Fields: hostField("f")})
		if b != "?" {
			ask(strings.Contains(path, b), asked("GET /"+b+"4g HTTP/1.1"), api.Head{Method: "GET", Path: "/" + b + "4g", Host: "f", Fields: hostField("f")})
		}
		ask(strings.Contains(path+"?", b), asked("GET /?"+b+"4g HTTP/1.1"), api.Head{Method: "GET", Path: "/", Query: b + "4g", Host: "f", Fields: hostField("f")})
		hex := strings.Contains("0123456789abcdefABCDEF", b)
		ask(hex, asked("GET /%"+b+"0?%0"+b+" HTTP/1.1"), api.Head{Method: "GET", Path: "/%" + b + "0", Query: "%0" + b, Host: "f", Fields: hostField("f")})
		name := strings.ToLower(b)
		if c > 127 {
			name = b
		}
		if b != ":" {
			ask(strings.Contains(token, b), asked("GET / HTTP/1.1\r\nX"+b+":v"), api.Head{Method: "GET", Path: "/", Host: "f", Fields: []api.Field{{Name: "x" + name, Value: "v"}, {Name: "host", Value: "f"}}})
		}
		value := c == 9 || c >= 32 && c <= 126 || c > 127
		ask(value, asked("GET / HTTP/1.1\r\nx:v"+b+"w"), api.Head{Method: "GET", Path: "/", Host: "f", Fields: []api.Field{{Name: "x", Value: "v" + b + "w"}, {Name: "host", Value: "f"}}})
		alone := b
		if c == 9 || c == 32 {
			alone = ""
		}
		ask(value, asked("GET / HTTP/1.1\r\nx:"+b), api.Head{Method: "GET", Path: "/", Host: "f", Fields: []api.Field{{Name: "x", Value: alone}, {Name: "host", Value: "f"}}})
	}
}

// P9.1, P9.5: blanks around a value are not of it; those within are; it may be empty.
func TestParseValues(t *testing.T) {
	for text, want := range map[string]string{
		"": "", " ": "", "\t": "", " \t \t": "", "v": "v", " v": "v", "v ": "v", "\tv\t": "v", " \t v w\tx \t ": "v w\tx",
		":": ":", " : ": ":", ",": ",", "\xff": "\xff", " \x80 ": "\x80", "\xc2\xa0": "\xc2\xa0", "\u2003": "\u2003", "a\xffb": "a\xffb", "\"<>\"": "\"<>\"",
	} {
		wantHead(t, asked("GET / HTTP/1.1\r\nx:"+text), api.Head{Method: "GET", Path: "/", Host: "f", Fields: []api.Field{{Name: "x", Value: want}, {Name: "host", Value: "f"}}})
	}
	for _, text := range []string{"\r", "\n", "a\rb", "a\nb", "a\r", "\x00", "\x7f", " \x7f ", "\x0b", "\x0c", "\x1f"} {
		wantRefused(t, asked("GET / HTTP/1.1\r\nx:"+text), api.ErrForm)
	}
}

// P9.1: fields stand in their order, alike ones too; what is no field is refused.
func TestParseFields(t *testing.T) {
	wantHead(t, "A / HTTP/1.1\r\nB:2\r\nhOsT: X\r\na: 1\r\nB:\r\nb:3\r\n\r\n", api.Head{Method: "A", Path: "/", Host: "x",
		Fields: []api.Field{{Name: "b", Value: "2"}, {Name: "host", Value: "X"}, {Name: "a", Value: "1"}, {Name: "b"}, {Name: "b", Value: "3"}}})
	for _, line := range []string{"x", ":", ": v", ":v", " x:v", "\tx:v", "x :v", "x\t:v", "x y:v", "(x):v", "x\xe4:v", "\xe4:v", "\u017f:v", " ", "\t", " v", "x\r:v", "x", "\rx:v", "x:v\r\n\n", "\n"} {
		for _, text := range []string{line + "\r\nhost: f", "host: f\r\n" + line} {
			wantRefused(t, "GET / HTTP/1.1\r\n"+text+"\r\n\r\n", api.ErrForm)
		}
	}
	wantRefused(t, "GET / HTTP/1.1\nhost: a\r\n\r\n", api.ErrForm)
	wantRefused(t, "GET / HTTP/1.1\r\nhost: a\nx: b\r\n\r\n", api.ErrForm)
	wantRefused(t, "GET / HTTP/1.1\rhost: a\r\n\r\n", api.ErrForm)
}

// P9.1: just one field is named host, and its value is a host's text, be there one in the target or not.
func TestParseHost(t *testing.T) {
	for _, target := range []string{"/", "http://q/"} {
		for _, fields := range []string{
			"", "x: y\r\n", "hosts: a\r\n", "hos: t\r\n", "x-host: a\r\n",
			"host: a\r\nhost: a\r\n", "host: a\r\nHOST: b\r\n", "Host: a\r\nx: y\r\nhost:\r\n", "host:\r\nhost: a\r\n",
			"host:\r\n", "host: \r\n", "host: a b\r\n", "host: a:123456\r\n", "host: a..b\r\n", "host: :80\r\n", "host: a/\r\n", "host: http://a\r\n", "host: a:1:2\r\n",
			"host: " + strings.Repeat("a", api.MaxName+1) + "\r\n", "host: \xe4\r\n",
		} {
			wantRefused(t, "GET "+target+" HTTP/1.1\r\n"+fields+"\r\n", api.ErrForm)
		}
	}
	for value, host := range map[string]string{"a:": "a", "A": "a", "a:1": "a", "a.B:12345": "a.b", "-": "-"} {
		wantHead(t, "GET / HTTP/1.1\r\nHOST:\t"+value+" \r\n\r\n", api.Head{Method: "GET", Path: "/", Host: host, Fields: hostField(value)})
		wantHead(t, "GET http://Q HTTP/1.1\r\nHOST:"+value+"\r\n\r\n", api.Head{Method: "GET", Path: "/", Host: "q", Fields: hostField(value)})
	}
	most := strings.Repeat("a", api.MaxName)
	wantHead(t, "GET http://"+most+":12345 HTTP/1.1\r\nhost: x"+most[1:]+":12345\r\n\r\n", api.Head{Method: "GET", Path: "/", Host: most, Fields: hostField("x" + most[1:] + ":12345")})
	wantHead(t, "GET / HTTP/1.1\r\nhost: "+most+":12345\r\n\r\n", api.Head{Method: "GET", Path: "/", Host: most, Fields: hostField(most + ":12345")})
}

// filled is a head of n bytes, with a field that fills it.
func filled(n int) string {
	const text = "GET / HTTP/1.1\r\nhost: a\r\nx:"
	return text + strings.Repeat("v", n-len(text)-4) + "\r\n\r\n"
}

// P9.1: MaxHead: a head of just so many bytes, and of one more.
func TestParseLength(t *testing.T) {
	for _, behind := range []string{"", "v", "\r\n\r\n", strings.Repeat("v", api.MaxHead)} {
		for _, n := range []int{api.MaxHead - 1, api.MaxHead} {
			h, at, e := head.Parse([]byte(filled(n) + behind))
			if e != api.OK || at != n || h.Host != "a" {
				t.Errorf("a head of %d bytes: %d, %d", n, at, e)
			}
		}
		for n := api.MaxHead + 1; n < api.MaxHead+6; n++ {
			wantRefused(t, filled(n)+behind, api.ErrLimit)
		}
	}
	for n := api.MaxHead - 6; n < api.MaxHead+6; n++ {
		want := api.ErrShort
		if n >= api.MaxHead {
			want = api.ErrLimit
		}
		wantRefused(t, strings.Repeat("x", n), want)
		wantRefused(t, filled(api.MaxHead + 10)[:n], want)
		wantRefused(t, strings.Repeat("\r\n\n", n)[:n], want)
	}
	wantRefused(t, strings.Repeat("x", 1<<20)+"\r\n\r\n", api.ErrLimit)
}

// P9.1: MaxFields; that there are more is told only of what is a head else.
func TestParseManyFields(t *testing.T) {
	many := func(n int) string { return strings.Repeat("x:y\r\n", n) }
	for n := api.MaxFields - 2; n < api.MaxFields+3; n++ {
		for _, text := range []string{many(n) + "host: a\r\n", "host: a\r\n" + many(n)} {
			text = "GET / HTTP/1.1\r\n" + text + "\r\n"
			if n+1 > api.MaxFields {
				wantRefused(t, text, api.ErrLimit)
				continue
			}
			if h, at, e := head.Parse([]byte(text)); e != api.OK || at != len(text) || len(h.Fields) != n+1 {
				t.Errorf("%d fields: %d, %d", n+1, at, e)
			}
		}
	}
	for _, fields := range []string{many(40), many(40) + "host: a\r\nhost: a\r\n", many(40) + "host:\r\n", "host: a\r\n" + many(40) + "x\r\n", many(32) + "host: a\r\n x: y\r\n"} {
		wantRefused(t, "GET / HTTP/1.1\r\n"+fields+"\r\n", api.ErrForm)
	}
	wantRefused(t, "GET /\x00 HTTP/1.1\r\nhost: a\r\n"+many(40)+"\r\n", api.ErrForm)
	wantRefused(t, "GET / HTTP/1.1\r\nhost: a\r\n"+many(40), api.ErrShort)
	wantRefused(t, "GET / HTTP/1.1\r\nhost: a\r\n"+many(500)+"\r\n", api.ErrLimit)
	wantRefused(t, "GET /\x00 HTTP/1.1\r\nhost: a\r\n"+many(500)+"\r\n", api.ErrLimit)
}

// P1, P9.1: no bytes; nothing but lines' ends.
func TestParseNothing(t *testing.T) {
	for _, b := range [][]byte{nil, {}, make([]byte, 0, 8)} {
		if h, at, e := head.Parse(b); e != api.ErrShort || at != 0 || !alike(h, api.Head{}) {
			t.Errorf("of no bytes: %s, %d, %d", shown(h), at, e)
		}
	}
	for _, s := range []string{"\r", "\r\n", "\r\n\r", "\n\n", "\r\r", "\r\n\n", "\n\r\n\r"} {
		wantRefused(t, s, api.ErrShort)
	}
	for _, s := range []string{"\r\n\r\n", "\r\n\r\n\r\n", "\r\r\n\r\n", "\n\r\n\r\n", "x\r\n\r\n"} {
		wantRefused(t, s, api.ErrForm)
	}
}

// P3: bytes stay as they are, with what lies behind them, and an answer does not change with them.
func TestParseMemory(t *testing.T) {
	const text = "GET http://Q/a?b HTTP/1.1\r\nHOST: R \r\nX:  y\r\n\r\n"
	room := []byte(text + "behind")
	b := room[:len(text)]
	h, _, e := head.Parse(b)
	if e != api.OK || string(room) != text+"behind" {
		t.Errorf("Parse changed the bytes to %q, %d", room, e)
	}
	again, _, _ := head.Parse(b)
	h.Fields[0], h.Fields[1] = api.Field{}, api.Field{}
	clear(room)
	want := api.Head{Method: "GET", Path: "/a", Query: "b", Host: "q", Fields: []api.Field{{Name: "host", Value: "R"}, {Name: "x", Value: "y"}}}
	if !alike(again, want) {
		t.Errorf("what was told became %s", shown(again))
	}
}
