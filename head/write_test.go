package head_test

import (
	"slices"
	"strings"
	"testing"

	"tollgate/api"
	"tollgate/head"
)

func plainHead() api.Head {
	return api.Head{Method: "GET", Path: "/a", Query: "b", Host: "x.y", Fields: []api.Field{{Name: "host", Value: "X.y:80"}, {Name: "c", Value: "d"}}}
}

// P9.2: what is written.
func TestWrite(t *testing.T) {
	wantWritten(t, plainHead(), "GET /a?b HTTP/1.1\r\nhost: X.y:80\r\nc: d\r\n\r\n")
	wantWritten(t, api.Head{Method: "!", Path: "/", Host: "a", Fields: hostField("A")}, "! / HTTP/1.1\r\nhost: A\r\n\r\n")
	wantWritten(t, api.Head{Method: "get", Path: "//", Query: "?", Host: "a", Fields: []api.Field{{Name: "x"}, {Name: "x", Value: "\xff v\t\"w"}, {Name: "host", Value: "a:"}, {Name: "~"}}},
		"get //?? HTTP/1.1\r\nx: \r\nx: \xff v\t\"w\r\nhost: a:\r\n~: \r\n\r\n")
	wantWritten(t, api.Head{Method: "A", Path: "/%41", Query: "%ff/", Host: "a", Fields: hostField("a:12345")}, "A /%41?%ff/ HTTP/1.1\r\nhost: a:12345\r\n\r\n")
}

// P9.2: heads that may not be.
func TestWriteForm(t *testing.T) {
	wantUnwritten(t, api.Head{}, api.ErrForm)
	for _, method := range []string{"", " ", "G T", "GET ", " GET", "G:T", "G/T", "GET\r", "\xe4", "G\x00", "(", "\u0161"} {
		h := plainHead()
		h.Method = method
		wantUnwritten(t, h, api.ErrForm)
	}
	for _, path := range []string{"", "a", "*", "http://x.y/", "/ ", "/a b", "/a?b", "/?", "/#", "/%", "/%4", "/%4g", "/%%41", "/\r\n", "/\xe4", "/\u0161", "?"} {
		h := plainHead()
		h.Path = path
		wantUnwritten(t, h, api.ErrForm)
	}
	for _, query := range []string{" ", "a b", "#", "%", "%4", "%g1", "\r\n", "\xe4", "\u0161", "a#b"} {
		h := plainHead()
		h.Query = query
		wantUnwritten(t, h, api.ErrForm)
	}
	for _, host := range []string{"", "X.y", "x.Y", "x.y:80", "X.y:80", "x", "x.y.", "x.z", " x.y"} {
		h := plainHead()
		h.Host = host
		wantUnwritten(t, h, api.ErrForm)
	}
}

// P9.2: fields that may not be, the last one as well as the first one.
func TestWriteFields(t *testing.T) {
	for _, f := range []api.Field{
		{Value: "v"}, {Name: "X", Value: "v"}, {Name: "x-Y"}, {Name: "xZ"}, {Name: "aA"}, {Name: "x y"}, {Name: "x:"}, {Name: "x "}, {Name: " x"}, {Name: "x\r"}, {Name: "\xe4"}, {Name: "\u0161"}, {Name: "("},
		{Name: "x", Value: " "}, {Name: "x", Value: "\t"}, {Name: "x", Value: " v"}, {Name: "x", Value: "v "}, {Name: "x", Value: "\tv"}, {Name: "x", Value: "v\t"},
		{Name: "x", Value: "\r"}, {Name: "x", Value: "v\r\ny: z"}, {Name: "x", Value: "v\nw"}, {Name: "x", Value: "\x00"}, {Name: "x", Value: "a\x7fb"}, {Name: "x", Value: "\x1f"},
		{Name: "host", Value: "X.y:80"}, {Name: "host"}, {Name: "host", Value: "z"}, {Name: "Host", Value: "x.y"},
	} {
		h := plainHead()
		for i := range len(h.Fields) + 1 {
			g := h
			g.Fields = slices.Insert(slices.Clone(h.Fields), i, f)
			wantUnwritten(t, g, api.ErrForm)
		}
	}
	for _, value := range []string{"", "x..y", "x.y:123456", "x.y:a", ":80", "x.y ", "x.y/", "x_y", "z"} {
		h := plainHead()
		h.Fields[0].Value = value
		wantUnwritten(t, h, api.ErrForm)
	}
	for _, fields := range [][]api.Field{nil, {}, {{Name: "x"}}, {{Name: "hosts", Value: "x.y"}}} {
		h := plainHead()
		h.Fields = fields
		wantUnwritten(t, h, api.ErrForm)
		h.Host = ""
		wantUnwritten(t, h, api.ErrForm)
	}
}

// P9.2: of one byte in each part, all 256.
func TestWriteBytes(t *testing.T) {
	const token = letters + digits + "!#$%&'*+-.^_`|~"
	const path = letters + digits + "/-._~!$&'()*+,;=:@"
	for c := range 256 {
		b := string([]byte{byte(c)})
		ask := func(may bool, h api.Head, want string) {
			t.Helper()
			if may {
				wantWritten(t, h, want)
			} else {
				wantUnwritten(t, h, api.ErrForm)
			}
		}
		ask(strings.Contains(token, b), api.Head{Method: b, Path: "/", Host: "f", Fields: hostField("f")}, b+" / HTTP/1.1\r\nhost: f\r\n\r\n")
		ask(strings.Contains(path, b), api.Head{Method: "M", Path: "/" + b, Host: "f", Fields: hostField("f")}, "M /"+b+" HTTP/1.1\r\nhost: f\r\n\r\n")
		ask(strings.Contains(path+"?", b), api.Head{Method: "M", Path: "/", Query: b, Host: "f", Fields: hostField("f")}, "M /?"+b+" HTTP/1.1\r\nhost: f\r\n\r\n")
		large := c >= 'A' && c <= 'Z'
		ask(strings.Contains(token, b) && !large, api.Head{Method: "M", Path: "/", Host: "f", Fields: []api.Field{{Name: "host", Value: "f"}, {Name: b}}}, "M / HTTP/1.1\r\nhost: f\r\n"+b+": \r\n\r\n")
		value := c >= 33 && c <= 126 || c > 127
		ask(value, api.Head{Method: "M", Path: "/", Host: "f", Fields: []api.Field{{Name: "host", Value: "f"}, {Name: "x", Value: b}}}, "M / HTTP/1.1\r\nhost: f\r\nx: "+b+"\r\n\r\n")
		ask(value || c == 9 || c == 32, api.Head{Method: "M", Path: "/", Host: "f", Fields: []api.Field{{Name: "host", Value: "f"}, {Name: "x", Value: "v" + b + "v"}}}, "M / HTTP/1.1\r\nhost: f\r\nx: v"+b+"v\r\n\r\n")
	}
}

// P9.2: MaxFields, and MaxHead in each part; what may not be at all is told first.
func TestWriteLimits(t *testing.T) {
	h := plainHead()
	for len(h.Fields) < api.MaxFields {
		h.Fields = append(h.Fields, api.Field{Name: "x"})
	}
	wantWritten(t, h, "GET /a?b HTTP/1.1\r\nhost: X.y:80\r\nc: d\r\n"+strings.Repeat("x: \r\n", api.MaxFields-2)+"\r\n")
	h.Fields = append(h.Fields, api.Field{Name: "x"})
	wantUnwritten(t, h, api.ErrLimit)
	for i := range h.Fields {
		g := h
		g.Fields = slices.Clone(h.Fields)
		g.Fields[i].Name = "X"
		wantUnwritten(t, g, api.ErrForm)
	}
	h.Host = "z"
	wantUnwritten(t, h, api.ErrForm)

	least, _ := head.Write(plainHead())
	for n := api.MaxHead - len(least) - 1; n < api.MaxHead-len(least)+3; n++ {
		long := strings.Repeat("l", n)
		for i := range 5 {
			h := plainHead()
			*[]*string{&h.Method, &h.Path, &h.Query, &h.Fields[1].Name, &h.Fields[1].Value}[i] += long
			b, e := head.Write(h)
			if n <= api.MaxHead-len(least) && (e != api.OK || len(b) != len(least)+n) {
				t.Errorf("a head of %d bytes: %d, error %d", len(least)+n, len(b), e)
			} else if n > api.MaxHead-len(least) {
				wantUnwritten(t, h, api.ErrLimit)
				h.Host = "z"
				wantUnwritten(t, h, api.ErrForm)
			}
		}
	}
	h = plainHead()
	h.Query += strings.Repeat("l", 1<<20)
	wantUnwritten(t, h, api.ErrLimit)
	h.Query += " "
	wantUnwritten(t, h, api.ErrForm)
}

// P3: a head stays as it is, with what lies behind its fields; each answer is memory of its own.
func TestWriteMemory(t *testing.T) {
	room := append(plainHead().Fields, api.Field{Name: "behind", Value: "it"})
	before := slices.Clone(room)
	h := plainHead()
	h.Fields = room[:2]
	first, _ := head.Write(h)
	second, _ := head.Write(h)
	clear(first[:cap(first)])
	if !slices.Equal(room, before) {
		t.Errorf("Write changed the fields to %q", room)
	}
	if string(second) != "GET /a?b HTTP/1.1\r\nhost: X.y:80\r\nc: d\r\n\r\n" {
		t.Errorf("what was written became %q", second)
	}
}
