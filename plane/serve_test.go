package plane_test

import (
	"bytes"
	"math"
	"slices"
	"strings"
	"testing"

	"tollgate/api"
	"tollgate/head"
	"tollgate/plane"
)

func applied(t *testing.T, c api.Config) *plane.Plane {
	t.Helper()
	p := plane.New()
	if e := p.Apply(c); e != api.OK {
		t.Fatalf("Apply(%s): %d", shown(c), e)
	}
	return p
}

// wantReply: whatever stands behind the request, and however often it is asked.
func wantReply(t *testing.T, p *plane.Plane, text string, draw float64, want api.Reply) {
	t.Helper()
	for _, behind := range []string{"", "body", "\r\n\r\n"} {
		if r := p.Serve([]byte(text+behind), draw); r != want {
			t.Errorf("Serve(%.200q, %v): %v; want %v", text+behind, draw, r, want)
		}
	}
}

func request(target, host string) string {
	return "GET " + target + " HTTP/1.1\r\nhost: " + host + "\r\n\r\n"
}

// P10.4: the four answers.
func TestServe(t *testing.T) {
	p := applied(t, sample(7))
	wantReply(t, p, request("/", "a"), 0, api.Reply{Status: 200, Version: 7, Pool: "p", Addr: "t:1"})
	wantReply(t, p, request("/xy?/x", "A:80"), 0.2, api.Reply{Status: 200, Version: 7, Pool: "p", Addr: "t:1"})
	wantReply(t, p, request("/", "a"), 0.25, api.Reply{Status: 200, Version: 7, Pool: "p", Addr: "t:3"})
	wantReply(t, p, request("/", "a"), nan, api.Reply{Status: 200, Version: 7, Pool: "p", Addr: "t:1"})
	wantReply(t, p, request("/", "a"), infinite, api.Reply{Status: 200, Version: 7, Pool: "p", Addr: "t:3"})
	wantReply(t, p, request("/x", "a"), 0.5, api.Reply{Status: 503, Version: 7, Pool: "q"})
	wantReply(t, p, request("/x/y", "a"), 1, api.Reply{Status: 503, Version: 7, Pool: "q"})
	wantReply(t, p, request("/", "b"), 0.5, api.Reply{Status: 404, Version: 7})
	wantReply(t, p, request("/", "a.a"), 0.5, api.Reply{Status: 404, Version: 7})
	wantReply(t, p, "GET / HTTP/1.1\r\n\r\n", 0.5, api.Reply{Status: 400, Version: 7})
}

// P10.4: a new plane has no route, and says so as version 0.
func TestServeNew(t *testing.T) {
	wantReply(t, plane.New(), request("/", "a"), 0.5, api.Reply{Status: 404})
	wantReply(t, plane.New(), request("", "a"), 0.5, api.Reply{Status: 400})
}

// P10.4: the host is the target's, if it has one.
func TestServeHost(t *testing.T) {
	p := applied(t, sample(2))
	for _, draw := range draws() {
		addr := "t:1"
		if draw >= 0.25 {
			addr = "t:3"
		}
		wantReply(t, p, request("http://A:1", "b"), draw, api.Reply{Status: 200, Version: 2, Pool: "p", Addr: addr})
		wantReply(t, p, request("http://a/x", "b"), draw, api.Reply{Status: 503, Version: 2, Pool: "q"})
		wantReply(t, p, request("http://b/", "a"), draw, api.Reply{Status: 404, Version: 2})
		wantReply(t, p, request("http://a/", ""), draw, api.Reply{Status: 400, Version: 2})
	}
}

// P10.4: each error of Parse is 400, ahead of all else.
func TestServeNoRequest(t *testing.T) {
	p := applied(t, sample(3))
	for _, b := range [][]byte{nil, {}, []byte("GET / HTTP/1.1\r\nhost: a\r\n"), make([]byte, api.MaxHead), make([]byte, api.MaxHead+1),
		[]byte(request("*", "a")), []byte(request("/", "a b")), []byte("GET / HTTP/1.1\r\nhost: a\r\n" + strings.Repeat("x:\r\n", api.MaxFields) + "\r\n"), []byte("\r\n\r\n")} {
		for _, draw := range draws() {
			if r := p.Serve(b, draw); r != (api.Reply{Status: 400, Version: 3}) {
				t.Errorf("Serve(%.200q, %v): %v", b, draw, r)
			}
		}
	}
}

// P10.4: a pool that is not there, one without targets or weights, two of one name.
func TestServePools(t *testing.T) {
	ask := request("/", "a")
	route := []api.Route{{Host: "a", Prefix: "/", Pool: "p"}}
	for _, pools := range [][]api.Pool{
		nil, {}, {{Name: "q", Targets: targets(1)}}, {{Name: "P", Targets: targets(1)}}, {{Targets: targets(1)}},
		{{Name: "p"}}, {{Name: "p", Targets: []api.Target{}}}, {{Name: "p", Targets: targets(0, nan, infinite, -1, below0)}},
		{{Name: "p"}, {Name: "p", Targets: targets(1)}},
	} {
		p := applied(t, api.Config{Version: 5, Routes: route, Pools: pools})
		for _, draw := range draws() {
			wantReply(t, p, ask, draw, api.Reply{Status: 503, Version: 5, Pool: "p"})
		}
	}
	p := applied(t, api.Config{Version: 5, Routes: route, Pools: []api.Pool{{Name: "o", Targets: targets(1)}, {Name: "p", Targets: []api.Target{{Addr: "first", Weight: 1}}}, {Name: "p", Targets: []api.Target{{Addr: "second", Weight: 1}}}}})
	wantReply(t, p, ask, 0.5, api.Reply{Status: 200, Version: 5, Pool: "p", Addr: "first"})
	p = applied(t, api.Config{Version: 5, Routes: []api.Route{{Host: "a", Prefix: "/"}}, Pools: []api.Pool{{Targets: []api.Target{{Weight: huge}}}}})
	wantReply(t, p, ask, 0.5, api.Reply{Status: 200, Version: 5})
	p = applied(t, api.Config{Version: 5, Routes: []api.Route{{Host: "a", Prefix: "/", Pool: "p"}, {Host: "a", Prefix: "/", Pool: "q"}}, Pools: []api.Pool{{Name: "q", Targets: targets(1)}}})
	wantReply(t, p, ask, 0.5, api.Reply{Status: 503, Version: 5, Pool: "p"})
}

// P10.4: an answer is that of the version that the plane has by then.
func TestServeVersions(t *testing.T) {
	p := plane.New()
	for version := 1; version < 20; version++ {
		c := sample(version)
		c.Pools[0].Targets[0].Addr = strings.Repeat("z", version)
		if p.Apply(c) != api.OK || p.Apply(sample(version)) != api.ErrStale {
			t.Fatal("Apply")
		}
		wantReply(t, p, request("/", "a"), 0, api.Reply{Status: 200, Version: version, Pool: "p", Addr: strings.Repeat("z", version)})
		wantReply(t, p, request("/", "b"), 0, api.Reply{Status: 404, Version: version})
		wantReply(t, p, "", 0, api.Reply{Status: 400, Version: version})
	}
}

// someConfig may be one that commands do not make.
func someConfig(c *chance) api.Config {
	config := api.Config{Version: 1 + c.below(9)}
	for range c.below(8) {
		config.Routes = append(config.Routes, api.Route{Host: c.of("a", "b", "B", ""), Prefix: c.of("/", "/x", "/x/", "/x/y", "", "x"), Pool: c.of("p", "q", "r", "")})
	}
	for range c.below(5) {
		p := api.Pool{Name: c.of("p", "q", "r", "")}
		for range c.below(4) {
			p.Targets = append(p.Targets, api.Target{Addr: c.of("t:1", "t:2", "t:3", ""), Weight: someWeight(c)})
		}
		config.Pools = append(config.Pools, p)
	}
	return config
}

func someRequest(c *chance) string {
	target := c.of("/", "/x", "/x/", "/x/y/z", "/xy", "/z?/x", "http://a", "http://B/x", "x", "/x%")
	return request(target, c.of("a", "A", "a:80", "b", "c", "a", "a", "_"))
}

// wanted is what the words of P10.4 make of the calls below.
func wanted(c api.Config, b []byte, draw float64) api.Reply {
	r := api.Reply{Status: 400, Version: c.Version}
	h, _, e := head.Parse(b)
	if e != api.OK {
		return r
	}
	route, ok := plane.Find(c, h.Host, h.Path)
	if !ok {
		r.Status = 404
		return r
	}
	r.Status, r.Pool = 503, route.Pool
	for _, p := range c.Pools {
		if p.Name != route.Pool {
			continue
		}
		if i, ok := plane.Weigh(p.Targets, draw); ok {
			r.Status, r.Addr = 200, p.Targets[i].Addr
		}
		break
	}
	return r
}

// P10.4, P10.5 (E5): any bytes and any draw have one of the four answers, and the bytes stay as they are.
func TestServeScript(t *testing.T) {
	c := chance(8)
	told := map[int]int{}
	for range 3000 {
		config := someConfig(&c)
		p := applied(t, config)
		for range 10 {
			room := []byte(someRequest(&c) + "behind")
			b := room[:len(room)-6]
			if c.below(6) == 0 {
				b[c.below(len(b))] = byte(c.below(256))
			}
			before := slices.Clone(room)
			draw := []float64{someWeight(&c), float64(c.below(1000)) / 1000, math.Float64frombits(uint64(c))}[c.below(3)]
			r := p.Serve(b, draw)
			if want := wanted(config, b, draw); r != want {
				t.Fatalf("Serve(%q, %v) of\n%s: %v; want %v", b, draw, shown(config), r, want)
			}
			if !bytes.Equal(room, before) {
				t.Fatalf("Serve changed %q to %q", before, room)
			}
			told[r.Status]++
		}
		if r := p.Serve(garbage(&c), 0); r != (api.Reply{Status: 400, Version: config.Version}) {
			t.Fatalf("bytes of chance: %v", r)
		}
		wantConfig(t, p, config)
	}
	if len(told) != 4 || min(told[200], told[400], told[404], told[503]) < 1000 {
		t.Errorf("the answers are %v", told)
	}
}

func garbage(c *chance) []byte {
	b := make([]byte, c.below(100))
	for i := range b {
		b[i] = byte(c.below(256))
	}
	return append(b, "\r\n\r\n"...)
}
