package conf_test

import (
	"fmt"
	"strings"
	"testing"

	"tollgate/api"
	"tollgate/conf"
)

// seen is what a store's bytes say of a client.
type seen struct{ client, seq, errno, version int }

func configBytes(c api.Config) string {
	var s strings.Builder
	s.WriteString(number(len(c.Pools)))
	for _, p := range c.Pools {
		s.WriteString(texts(p.Name) + targetBytes(p.Targets...))
	}
	s.WriteString(number(len(c.Routes)))
	for _, r := range c.Routes {
		s.WriteString(texts(r.Host, r.Prefix, r.Pool))
	}
	return s.String()
}

// storeBytes are those of anything, right or not.
func storeBytes(c api.Config, clients ...seen) string {
	s := number(c.Version) + configBytes(c) + number(len(clients))
	for _, x := range clients {
		s += numbers(x.client, x.seq, x.errno, x.version)
	}
	return s
}

func wantNotLoaded(t *testing.T, what, b string, errno api.Errno) {
	t.Helper()
	if s, e := conf.Load([]byte(b)); e != errno || s != nil {
		t.Errorf("Load, %s: error %d; want %d", what, e, errno)
	}
}

func load(t *testing.T, b string) *conf.Store {
	t.Helper()
	s, e := conf.Load([]byte(b))
	if e != api.OK || s == nil {
		t.Fatalf("Load(%.300x): error %d", b, e)
	}
	return s
}

// P8.4, P8.5: bytes by hand; cut anywhere they are short.
func TestStoreBytes(t *testing.T) {
	s := conf.New()
	wantResult(t, s, ofClient(2, 300, putPool("b", target("t", 1))), api.OK, 1)
	wantResult(t, s, putPool("a"), api.OK, 2)
	wantResult(t, s, putRoute("x.y", "/z", "b"), api.OK, 3)
	wantResult(t, s, putRoute("x.y", "/", "a"), api.OK, 4)
	wantResult(t, s, ofClient(1, 5, dropPool("a")), api.ErrBusy, 4)
	wantResult(t, s, ofClient(10, 1, expecting(2, dropPool("a"))), api.ErrStale, 4)
	want := "\x04" + "\x02\x01a\x00\x01b\x01\x01t\x3f\xf0\x00\x00\x00\x00\x00\x00" + "\x02\x03x.y\x01/\x01a\x03x.y\x02/z\x01b" + "\x03\x01\x05\x0d\x04\x02\xac\x02\x00\x01\x0a\x01\x0c\x04"
	if string(s.Put()) != want {
		t.Fatalf("Put: %x; want %x", s.Put(), want)
	}
	l := load(t, want)
	if told(l) != told(s) {
		t.Errorf("loaded it is %s; want %s", told(l), told(s))
	}
	for n := range len(want) {
		wantNotLoaded(t, fmt.Sprintf("cut to %d bytes", n), want[:n], api.ErrShort)
	}
	wantNotLoaded(t, "a byte behind", want+"\x00", api.ErrForm)
	wantNotLoaded(t, "the same behind", want+want, api.ErrForm)
	if l, e := conf.Load(nil); e != api.ErrShort || l != nil {
		t.Errorf("Load(nil): error %d", e)
	}
	if told(load(t, "\x00\x00\x00\x00")) != told(conf.New()) {
		t.Error("loaded an empty one is not as a new one")
	}
}

func manyPools(count int) []api.Pool {
	var l []api.Pool
	for i := range count {
		l = append(l, api.Pool{Name: fmt.Sprintf("p%03d", i)})
	}
	return l
}

func manyRoutes(count int) []api.Route {
	var l []api.Route
	for i := range count {
		l = append(l, api.Route{Host: fmt.Sprintf("h%d", i/40), Prefix: fmt.Sprintf("/%03d", i), Pool: "p000"})
	}
	return l
}

func manyClients(count int) []seen {
	var l []seen
	for i := range count {
		l = append(l, seen{client: i + 1, seq: 1})
	}
	return l
}

// P8.4: as many as may be of each, and one more, where it is told.
func TestLoadLimits(t *testing.T) {
	most := api.Config{Version: api.MaxNum, Pools: manyPools(api.MaxPools), Routes: manyRoutes(api.MaxRoutes)}
	most.Pools[3].Targets = many(api.MaxTargets)
	l := load(t, storeBytes(most, manyClients(api.MaxClient)...))
	wantConfig(t, l, most)
	wantSeen(t, l, api.MaxClient, 1, api.OK, 0)
	pools, routes := api.Config{Pools: manyPools(api.MaxPools + 1)}, api.Config{Pools: manyPools(1), Routes: manyRoutes(api.MaxRoutes + 1)}
	targets := api.Config{Pools: []api.Pool{{Name: "p", Targets: many(api.MaxTargets + 1)}}}
	wantNotLoaded(t, "too many pools", storeBytes(pools), api.ErrLimit)
	wantNotLoaded(t, "too many routes", storeBytes(routes), api.ErrLimit)
	wantNotLoaded(t, "too many targets", storeBytes(targets), api.ErrLimit)
	wantNotLoaded(t, "too many clients", storeBytes(api.Config{}, manyClients(api.MaxClient+1)...), api.ErrLimit)
}

// P8.4: the faults from the left, each ahead of what would be wrong behind it.
func TestLoadFaults(t *testing.T) {
	const tooBig, notShort = "\x81\x80\x80\x80\x80\x20", "\x80\x00"
	long := strings.Repeat("a", api.MaxPrefix+1)
	for _, ahead := range []string{
		"", "\x00", "\x00\x00", "\x00\x00\x00", // the version, and how many there are of each
		"\x00\x01", "\x00\x01\x01a", "\x00\x01\x01a\x01", // a pool
		"\x00\x00\x01", "\x00\x00\x01\x01h", "\x00\x00\x01\x01h\x01/", // a route
		"\x00\x00\x00\x01", "\x00\x00\x00\x01\x01", "\x00\x00\x00\x01\x01\x01", "\x00\x00\x00\x01\x01\x01\x00", // a client
	} {
		wantNotLoaded(t, fmt.Sprintf("%x and no more", ahead), ahead, api.ErrShort)
		wantNotLoaded(t, fmt.Sprintf("%x and a number above MaxNum", ahead), ahead+tooBig, api.ErrLimit)
		wantNotLoaded(t, fmt.Sprintf("%x and a number not the shortest", ahead), ahead+notShort+tooBig, api.ErrForm)
	}
	for _, ahead := range []string{"\x00\x01", "\x00\x01\x01a\x01", "\x00\x00\x01", "\x00\x00\x01\x01h", "\x00\x00\x01\x01h\x01/"} {
		wantNotLoaded(t, fmt.Sprintf("%x and a text that is too long", ahead), ahead+"\x81\x01", api.ErrLimit)
		wantNotLoaded(t, fmt.Sprintf("%x and a text that is too long, all there", ahead), ahead+"\x81\x01"+long, api.ErrLimit)
		wantNotLoaded(t, fmt.Sprintf("%x and a text of MaxPrefix, a byte too few", ahead), ahead+"\x80\x01"+long[2:], api.ErrShort)
	}
	for _, c := range []struct {
		what, bytes string
		errno       api.Errno
	}{
		{"too many pools, none there", "\x00\x21", api.ErrLimit},
		{"MaxPools, none there", "\x00\x20", api.ErrShort},
		{"too many routes, none there", "\x00\x00\x41", api.ErrLimit},
		{"MaxRoutes, none there", "\x00\x00\x40", api.ErrShort},
		{"too many targets, none there", "\x00\x01\x01a\x11", api.ErrLimit},
		{"MaxTargets, none there", "\x00\x01\x01a\x10", api.ErrShort},
		{"too many clients, none there", "\x00\x00\x00\x21", api.ErrLimit},
		{"MaxClient, none there", "\x00\x00\x00\x20", api.ErrShort},
		{"a wrong name ahead of too many targets", "\x00\x01\x01A\x11", api.ErrLimit},
		{"a wrong name ahead of a cut", "\x00\x01\x01A\x01\x01t\x3f", api.ErrShort},
		{"a weight of 7 bytes", "\x00\x01\x01a\x01\x01t\x3f\xf0\x00\x00\x00\x00\x00", api.ErrShort},
		{"a client 0 ahead of a cut", "\x00\x00\x00\x01\x00\x01\x00", api.ErrShort},
	} {
		wantNotLoaded(t, c.what, c.bytes, c.errno)
	}
}

// P8.4: what may not be is ErrForm.
func TestLoadWhatMayNotBe(t *testing.T) {
	right := func() api.Config {
		return api.Config{Version: 7, Pools: []api.Pool{{Name: "a"}, {Name: "b", Targets: many(2)}}, Routes: []api.Route{{Host: "h", Prefix: "/", Pool: "a"}, {Host: "h", Prefix: "/x", Pool: "b"}, {Host: "i", Prefix: "/", Pool: "b"}}}
	}
	load(t, storeBytes(right(), seen{1, 1, 0, 7}))
	for what, spoil := range map[string]func(c *api.Config){
		"an empty name":                  func(c *api.Config) { c.Pools[0].Name, c.Routes[0].Pool = "", "" },
		"a name of another letter":       func(c *api.Config) { c.Pools[0].Name, c.Routes[0].Pool = "A", "A" },
		"a name that is too long":        func(c *api.Config) { c.Pools[0].Name, c.Routes = strings.Repeat("a", api.MaxName+1), nil },
		"a name of MaxPrefix bytes":      func(c *api.Config) { c.Pools[0].Name, c.Routes = strings.Repeat("a", api.MaxPrefix), nil },
		"an empty address":               func(c *api.Config) { c.Pools[1].Targets[1].Addr = "" },
		"an address with a space":        func(c *api.Config) { c.Pools[1].Targets[0].Addr = "t t" },
		"an address that is too long":    func(c *api.Config) { c.Pools[1].Targets[0].Addr = strings.Repeat("t", api.MaxName+1) },
		"an empty host":                  func(c *api.Config) { c.Routes[0].Host = "" },
		"a host with an empty part":      func(c *api.Config) { c.Routes[2].Host = "i." },
		"a host that is too long":        func(c *api.Config) { c.Routes[2].Host = strings.Repeat("i", api.MaxName+1) },
		"an empty prefix":                func(c *api.Config) { c.Routes[0].Prefix = "" },
		"a prefix without a /":           func(c *api.Config) { c.Routes[2].Prefix = "x" },
		"a prefix with a ?":              func(c *api.Config) { c.Routes[2].Prefix = "/?" },
		"a pool twice":                   func(c *api.Config) { c.Pools[1].Name, c.Routes = "a", nil },
		"pools that fall":                func(c *api.Config) { c.Pools[0], c.Pools[1] = c.Pools[1], c.Pools[0] },
		"a route twice":                  func(c *api.Config) { c.Routes[1].Prefix = "/" },
		"prefixes that fall":             func(c *api.Config) { c.Routes[0], c.Routes[1] = c.Routes[1], c.Routes[0] },
		"hosts that fall":                func(c *api.Config) { c.Routes[1], c.Routes[2] = c.Routes[2], c.Routes[1] },
		"a route to no pool":             func(c *api.Config) { c.Routes[1].Pool = "c" },
		"the last route to no pool":      func(c *api.Config) { c.Routes[2].Pool = "c" },
		"a route to an empty name":       func(c *api.Config) { c.Routes[2].Pool = "" },
		"no pools at all":                func(c *api.Config) { c.Pools = nil },
		"a version below a client's own": func(c *api.Config) { c.Version = 6 },
	} {
		c := right()
		spoil(&c)
		wantNotLoaded(t, what, storeBytes(c, seen{1, 1, 0, 7}), api.ErrForm)
	}
	for _, w := range wrongWeights() {
		c := right()
		c.Pools[1].Targets[1].Weight = w
		wantNotLoaded(t, fmt.Sprintf("a weight of %v", w), storeBytes(c), api.ErrForm)
	}
	for _, w := range rightWeights {
		c := right()
		c.Pools[1].Targets[1].Weight = w
		wantConfig(t, load(t, storeBytes(c)), c)
	}
}

// P8.4: clients rise from 1 to MaxClient; of errors only those that are kept.
func TestLoadClients(t *testing.T) {
	c := api.Config{Version: 7}
	for _, l := range [][]seen{
		{{0, 1, 0, 0}}, {{api.MaxClient + 1, 1, 0, 0}}, {{api.MaxNum, 1, 0, 0}}, {{1, 0, 0, 0}}, {{1, 1, 0, 8}}, {{1, 1, 0, api.MaxNum}}, {{1, 1, 0, 0}, {1, 2, 0, 0}}, {{2, 1, 0, 0}, {1, 1, 0, 0}},
		{{0, 1, 0, 0}, {1, 1, 0, 0}}, {{1, 1, 0, 0}, {2, 0, 0, 0}}, {{1, 1, 0, 0}, {2, 1, 0, 8}}, {{1, 1, 0, 0}, {33, 1, 0, 0}}, {{1, 1, 1, 0}, {2, 1, 0, 0}},
	} {
		wantNotLoaded(t, fmt.Sprint(l), storeBytes(c, l...), api.ErrForm)
	}
	kept := map[int]bool{int(api.OK): true, int(api.ErrLimit): true, int(api.ErrGone): true, int(api.ErrStale): true, int(api.ErrBusy): true}
	for errno := range 20 {
		for _, version := range []int{0, 6, 7} {
			b := storeBytes(c, seen{3, api.MaxNum, errno, version}, seen{api.MaxClient, 1, 0, 7})
			if !kept[errno] {
				wantNotLoaded(t, fmt.Sprintf("error %d", errno), b, api.ErrForm)
				continue
			}
			s := load(t, b)
			wantSeen(t, s, 3, api.MaxNum, api.Errno(errno), version)
			wantSeen(t, s, api.MaxClient, 1, api.OK, 7)
			wantResult(t, s, ofClient(3, api.MaxNum, dropPool("a")), api.Errno(errno), version)
		}
	}
	wantNotLoaded(t, "an error of MaxNum", storeBytes(c, seen{1, 1, api.MaxNum, 0}), api.ErrForm)
}

// P8.4: a configuration of MaxConf bytes, and of one more; the version and the clients are none of them.
func TestLoadMaxConf(t *testing.T) {
	s := filled(t, api.MaxConf)
	c := s.Config()
	c.Version = api.MaxNum
	wantConfig(t, load(t, storeBytes(c, manyClients(api.MaxClient)...)), c)
	for i := range c.Routes {
		c.Routes[i].Prefix += "x"
	}
	if size(c) != api.MaxConf+1 {
		t.Fatalf("it has %d bytes", size(c))
	}
	wantNotLoaded(t, "a byte too many", storeBytes(c), api.ErrForm)
	for i := range c.Pools {
		c.Pools[i].Targets = longestTargets()
	}
	wantNotLoaded(t, "far too many bytes", storeBytes(c), api.ErrForm)
}

func longestTargets() []api.Target {
	var l []api.Target
	for range api.MaxTargets {
		l = append(l, target(strings.Repeat("t", api.MaxName), 1))
	}
	return l
}

// P8.2, P8.4: the last version that has bytes; OK makes it one more all the same, and then there are none to be mistaken for another store's.
func TestLastVersion(t *testing.T) {
	s := load(t, storeBytes(api.Config{Version: api.MaxNum}))
	wantUnchanged(t, s, expecting(api.MaxNum-1, putPool("a")), api.ErrStale)
	wantUnchanged(t, s, dropPool("a"), api.ErrGone)
	if string(s.Put()) != storeBytes(api.Config{Version: api.MaxNum}) {
		t.Errorf("Put: %x", s.Put())
	}
	wantResult(t, s, ofClient(1, 1, putPool("a")), api.OK, api.MaxNum+1)
	wantResult(t, s, ofClient(1, 1, putPool("a")), api.OK, api.MaxNum+1)
	if len(s.Put()) != 0 {
		t.Errorf("behind the last version Put is %x", s.Put())
	}
}
