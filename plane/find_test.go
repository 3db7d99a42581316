package plane_test

import (
	"strings"
	"testing"

	"tollgate/api"
	"tollgate/plane"
)

// routed is a configuration of routes to pools that are named by their places: a, b, c ..
func routed(places ...string) api.Config {
	var c api.Config
	for i, place := range places {
		host, prefix, _ := strings.Cut(place, " ")
		c.Routes = append(c.Routes, api.Route{Host: host, Prefix: prefix, Pool: string(rune('a' + i))})
	}
	return c
}

// wantRoute: that of the pool; none, if it is empty.
func wantRoute(t *testing.T, c api.Config, host, path, pool string) {
	t.Helper()
	r, ok := plane.Find(c, host, path)
	if pool == "" {
		if ok || r != (api.Route{}) {
			t.Errorf("Find(%.300q, %q, %.100q): %q, %t; want none", c.Routes, host, path, r, ok)
		}
		return
	}
	want := c.Routes[pool[0]-'a']
	if r != want || !ok {
		t.Errorf("Find(%.300q, %q, %.100q): %q, %t; want %q", c.Routes, host, path, r, ok, want)
	}
}

// P10.1: the document's example, and what lies about it.
func TestFindExample(t *testing.T) {
	c := routed("a /", "a /x")
	for path, pool := range map[string]string{
		"/x/y": "b", "/xy": "a", "/x": "b", "/x/": "b", "/": "a", "/y": "a", "/y/x": "a", "/X": "a", "": "", "x": "", "x/": "", "/x//": "b", "//x": "a", "/x?": "a", "/x%2f": "a",
	} {
		wantRoute(t, c, "a", path, pool)
		wantRoute(t, c, "b", path, "")
		wantRoute(t, c, "A", path, "")
		wantRoute(t, c, "", path, "")
	}
}

// P10.1: prefixes that end with / and that do not.
func TestFindEnds(t *testing.T) {
	c := routed("a /x/", "a /y", "a /y/z", "a /y/z/", "a /long", "a /lo")
	for path, pool := range map[string]string{
		"/x": "", "/x/": "a", "/x/y": "a", "/x//": "a", "/xy": "", "/": "",
		"/y": "b", "/y/": "b", "/y/zz": "b", "/yz": "", "/y/z": "c", "/y/z/": "d", "/y/z/a": "d",
		"/lo": "f", "/lon": "", "/long": "e", "/longer": "", "/lo/ng": "f", "/long/er": "e", "/lo/": "f",
	} {
		wantRoute(t, c, "a", path, pool)
	}
}

// P10.1: any configuration: in no order, alike routes, empty and odd texts.
func TestFindAnyConfig(t *testing.T) {
	wantRoute(t, api.Config{}, "a", "/", "")
	wantRoute(t, api.Config{Routes: []api.Route{}}, "", "", "")
	for _, c := range []api.Config{routed("a /x", "a /", "a /x", "a /"), routed("a /x", "b /x", "a /x")} {
		wantRoute(t, c, "a", "/x/y", "a")
	}
	wantRoute(t, routed("a /", "b /x", "a /"), "a", "/x", "a")
	wantRoute(t, routed("a /x/y/z", "a /x/y", "a /x", "a /x/y/"), "a", "/x/y/q", "d")
	wantRoute(t, routed("a /x/y", "a /x/y/", "a /x"), "a", "/x/y/q", "b")

	empty := routed("a ", " ", " /", "a x")
	wantRoute(t, empty, "a", "", "a")
	wantRoute(t, empty, "a", "/", "a")
	wantRoute(t, empty, "a", "/y", "a")
	wantRoute(t, empty, "a", "y", "")
	wantRoute(t, empty, "a", "x", "d")
	wantRoute(t, empty, "a", "x/", "d")
	wantRoute(t, empty, "a", "xy", "")
	wantRoute(t, empty, "", "", "b")
	wantRoute(t, empty, "", "/y", "c")
	wantRoute(t, empty, "", "y", "")
	wantRoute(t, routed("a ", "a /"), "a", "/y", "b")

	odd := routed("\xff \xff/", "\xff \xff", "A /\x00")
	wantRoute(t, odd, "\xff", "\xff/\xfe", "a")
	wantRoute(t, odd, "\xff", "\xff", "b")
	wantRoute(t, odd, "\xff", "\xff\xff", "")
	wantRoute(t, odd, "A", "/\x00/", "c")
	wantRoute(t, odd, "a", "/\x00/", "")

	long := strings.Repeat("/a", 5000)
	wantRoute(t, routed("a /", "a "+long, "a "+long+"b", "a "+long[:9998]), "a", long+"/b", "b")
}

// P10.1: all paths of a few letters, beside the words of a prefix that fits.
func TestFindScript(t *testing.T) {
	c := chance(9)
	text := func() string {
		s := c.of("", "/", "/", "/")
		for range c.below(5) {
			s += c.of("/", "a", "b")
		}
		return s
	}
	found := 0
	for range 30000 {
		var config api.Config
		for i := range c.below(8) {
			config.Routes = append(config.Routes, api.Route{Host: c.of("h", "h", "g"), Prefix: text(), Pool: string(rune('a' + i))})
		}
		path, want := text(), ""
		for _, r := range config.Routes {
			fits := r.Prefix == path || strings.HasPrefix(path, r.Prefix) && (strings.HasSuffix(r.Prefix, "/") || strings.HasPrefix(path, r.Prefix+"/"))
			if r.Host == "h" && fits && (want == "" || len(r.Prefix) > len(config.Routes[want[0]-'a'].Prefix)) {
				want = r.Pool
			}
		}
		wantRoute(t, config, "h", path, want)
		if want != "" {
			found++
		}
	}
	if found < 5000 || found > 25000 {
		t.Errorf("%d paths have a route", found)
	}
}
