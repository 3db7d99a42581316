package conf_test

import (
	"fmt"
	"math"
	"strings"
	"testing"

	"tollgate/api"
	"tollgate/conf"
)

// configShown tells floats by their bits.
func configShown(c api.Config) string {
	var s strings.Builder
	fmt.Fprintf(&s, "version %d; pools", c.Version)
	for _, p := range c.Pools {
		fmt.Fprintf(&s, " %q:%s;", p.Name, targetsShown(p.Targets))
	}
	s.WriteString(" routes")
	for _, r := range c.Routes {
		fmt.Fprintf(&s, " %q;", r)
	}
	return s.String()
}

// told is all that a store tells of itself.
func told(s *conf.Store) string {
	text := configShown(s.Config())
	for client := range api.MaxClient + 2 {
		if seq, r := s.Seen(client); seq != 0 || r != (api.Result{}) {
			text += fmt.Sprintf(" client %d: %d %v;", client, seq, r)
		}
	}
	return text + fmt.Sprintf(" bytes %x", s.Put())
}

func wantResult(t *testing.T, s *conf.Store, c api.Command, errno api.Errno, version int) {
	t.Helper()
	if r := s.Do(c); r != (api.Result{E: errno, Version: version}) {
		t.Errorf("Do(%.200s): %v; want error %d, version %d", shown(c), r, errno, version)
	}
}

// wantUnchanged: that result, and the configuration is as it was.
func wantUnchanged(t *testing.T, s *conf.Store, c api.Command, errno api.Errno) {
	t.Helper()
	before := s.Config()
	wantResult(t, s, c, errno, before.Version)
	if after := s.Config(); configShown(after) != configShown(before) {
		t.Errorf("Do(%.200s) changed\n%.1000s\nto\n%.1000s", shown(c), configShown(before), configShown(after))
	}
}

func wantSeen(t *testing.T, s *conf.Store, client, seq int, errno api.Errno, version int) {
	t.Helper()
	if n, r := s.Seen(client); n != seq || r != (api.Result{E: errno, Version: version}) {
		t.Errorf("Seen(%d): %d, %v; want %d, error %d, version %d", client, n, r, seq, errno, version)
	}
}

func wantConfig(t *testing.T, s *conf.Store, want api.Config) {
	t.Helper()
	if got := configShown(s.Config()); got != configShown(want) {
		t.Errorf("the configuration is\n%.2000s\nwant\n%.2000s", got, configShown(want))
	}
}

// P8.2, P8.3: a new one.
func TestNew(t *testing.T) {
	s := conf.New()
	wantConfig(t, s, api.Config{})
	for _, client := range []int{math.MinInt, -1, 0, 1, api.MaxClient, api.MaxClient + 1, math.MaxInt} {
		wantSeen(t, s, client, 0, api.OK, 0)
	}
	if string(s.Put()) != "\x00\x00\x00\x00" {
		t.Errorf("its bytes are %x", s.Put())
	}
}

// P8.2: the document's first example, and on.
func TestDo(t *testing.T) {
	s := conf.New()
	wantResult(t, s, putPool("a", target("t:80", 1)), api.OK, 1)
	wantResult(t, s, putRoute("x.y", "/", "a"), api.OK, 2)
	wantUnchanged(t, s, dropPool("a"), api.ErrBusy)
	wantConfig(t, s, api.Config{Version: 2, Pools: []api.Pool{{Name: "a", Targets: []api.Target{target("t:80", 1)}}}, Routes: []api.Route{{Host: "x.y", Prefix: "/", Pool: "a"}}})
	wantUnchanged(t, s, dropPool("b"), api.ErrGone)
	wantUnchanged(t, s, putRoute("x.y", "/z", "b"), api.ErrGone)
	wantUnchanged(t, s, putRoute("x.y", "/", "b"), api.ErrGone)
	wantUnchanged(t, s, dropRoute("x.y", "/z"), api.ErrGone)
	wantUnchanged(t, s, dropRoute("x", "/"), api.ErrGone)
	wantResult(t, s, putPool("b"), api.OK, 3)
	wantResult(t, s, putRoute("x.y", "/", "b"), api.OK, 4)
	wantUnchanged(t, s, dropPool("b"), api.ErrBusy)
	wantResult(t, s, dropPool("a"), api.OK, 5)
	wantUnchanged(t, s, dropPool("a"), api.ErrGone)
	wantResult(t, s, putPool("b", target("u", 2), target("t", 0)), api.OK, 6)
	wantConfig(t, s, api.Config{Version: 6, Pools: []api.Pool{{Name: "b", Targets: []api.Target{target("u", 2), target("t", 0)}}}, Routes: []api.Route{{Host: "x.y", Prefix: "/", Pool: "b"}}})
	wantResult(t, s, putPool("b", target("u", 2), target("t", 0)), api.OK, 7)
	wantResult(t, s, putRoute("x.y", "/", "b"), api.OK, 8)
	wantResult(t, s, dropRoute("x.y", "/"), api.OK, 9)
	wantResult(t, s, dropPool("b"), api.OK, 10)
	wantConfig(t, s, api.Config{Version: 10})
}

// P8.3: both lists rise by their bytes, whatever the order in which they came.
func TestConfigRises(t *testing.T) {
	s := conf.New()
	for i, name := range []string{"b", "a", "10", "9", "-", "ab", "a-"} {
		wantResult(t, s, putPool(name), api.OK, i+1)
	}
	places := [][2]string{{"b", "/"}, {"a.b", "/"}, {"a", "/z"}, {"a", "/"}, {"a", "/a/b"}, {"a-", "/"}, {"b", "/A"}, {"a", "/a"}}
	for i, p := range places {
		wantResult(t, s, putRoute(p[0], p[1], "a"), api.OK, 8+i)
	}
	want := api.Config{Version: 15}
	for _, name := range []string{"-", "10", "9", "a", "a-", "ab", "b"} {
		want.Pools = append(want.Pools, api.Pool{Name: name})
	}
	for _, p := range [][2]string{{"a", "/"}, {"a", "/a"}, {"a", "/a/b"}, {"a", "/z"}, {"a-", "/"}, {"a.b", "/"}, {"b", "/"}, {"b", "/A"}} {
		want.Routes = append(want.Routes, api.Route{Host: p[0], Prefix: p[1], Pool: "a"})
	}
	wantConfig(t, s, want)
}

// P8.2: a host and a prefix are one place, not their letters in a row.
func TestPlacesAreTwoTexts(t *testing.T) {
	s := conf.New()
	wantResult(t, s, putPool("a"), api.OK, 1)
	wantResult(t, s, putRoute("h", "/x", "a"), api.OK, 2)
	for _, c := range []api.Command{dropRoute("h", "/"), dropRoute("hx", "/"), dropRoute("h", "/x/"), dropRoute("x", "/h")} {
		wantUnchanged(t, s, c, api.ErrGone)
	}
}

// P8.2: Expect is any version below 0, else just that one, ahead of what the act would come to.
func TestExpect(t *testing.T) {
	s := conf.New()
	wantUnchanged(t, s, expecting(1, putPool("a")), api.ErrStale)
	wantResult(t, s, expecting(0, putPool("a")), api.OK, 1)
	for _, version := range []int{0, 2, api.MaxNum - 1} {
		for _, c := range append(eachAct(), dropPool("gone"), putRoute("h", "/", "gone")) {
			wantUnchanged(t, s, expecting(version, c), api.ErrStale)
		}
	}
	wantResult(t, s, expecting(1, putRoute("h", "/", "a")), api.OK, 2)
	wantUnchanged(t, s, expecting(2, dropPool("gone")), api.ErrGone)
	wantUnchanged(t, s, expecting(2, dropPool("a")), api.ErrBusy)
	wantResult(t, s, expecting(-1, dropRoute("h", "/")), api.OK, 3)
}

// P8.2, P8.6 (E4): done again with the same Seq it is what was told; with a smaller one stale.
func TestClients(t *testing.T) {
	s := conf.New()
	put := ofClient(1, 1, putPool("a"))
	for range 3 {
		wantResult(t, s, put, api.OK, 1)
		wantSeen(t, s, 1, 1, api.OK, 1)
	}
	wantConfig(t, s, api.Config{Version: 1, Pools: []api.Pool{{Name: "a"}}})
	wantResult(t, s, putRoute("h", "/", "a"), api.OK, 2)
	wantResult(t, s, put, api.OK, 1)
	wantResult(t, s, ofClient(1, 1, dropPool("gone")), api.OK, 1)
	wantResult(t, s, ofClient(2, 7, dropPool("a")), api.ErrBusy, 2)
	wantResult(t, s, dropRoute("h", "/"), api.OK, 3)
	wantResult(t, s, ofClient(2, 7, dropPool("a")), api.ErrBusy, 2)
	wantSeen(t, s, 2, 7, api.ErrBusy, 2)
	for _, seq := range []int{1, 2, 6} {
		wantUnchanged(t, s, ofClient(2, seq, dropPool("a")), api.ErrStale)
		wantSeen(t, s, 2, 7, api.ErrBusy, 2)
	}
	wantResult(t, s, ofClient(2, 8, dropPool("a")), api.OK, 4)
	wantResult(t, s, ofClient(2, 7, putPool("z")), api.ErrStale, 4)
	wantSeen(t, s, 1, 1, api.OK, 1)
	wantSeen(t, s, 2, 8, api.OK, 4)
	wantResult(t, s, ofClient(api.MaxClient, api.MaxNum, putPool("z")), api.OK, 5)
	wantResult(t, s, ofClient(api.MaxClient, api.MaxNum-1, putPool("z")), api.ErrStale, 5)
	wantResult(t, s, ofClient(api.MaxClient, api.MaxNum, putPool("z")), api.OK, 5)
	wantSeen(t, s, api.MaxClient, api.MaxNum, api.OK, 5)
}

// P8.2: each error is told to its client again, though by now the command would be OK.
func TestClientsErrors(t *testing.T) {
	s := conf.New()
	wantResult(t, s, putPool("full"), api.OK, 1)
	wantResult(t, s, putRoute("h", "/", "full"), api.OK, 2)
	for i, c := range []struct {
		c     api.Command
		errno api.Errno
	}{
		{expecting(9, putPool("a")), api.ErrStale}, {dropPool("gone"), api.ErrGone}, {dropPool("full"), api.ErrBusy}, {putRoute("h", "/", "gone"), api.ErrGone}, {dropRoute("gone", "/"), api.ErrGone},
	} {
		client := i + 1
		wantUnchanged(t, s, ofClient(client, 5, c.c), c.errno)
		wantSeen(t, s, client, 5, c.errno, 2)
	}
	wantResult(t, s, ofClient(6, 1, putPool("gone")), api.OK, 3)
	wantResult(t, s, ofClient(2, 5, dropPool("gone")), api.ErrGone, 2)
	wantResult(t, s, ofClient(2, 6, dropPool("gone")), api.OK, 4)
	wantResult(t, s, ofClient(1, 5, expecting(4, putPool("a"))), api.ErrStale, 2)
	wantResult(t, s, ofClient(1, 4, expecting(4, putPool("a"))), api.ErrStale, 4)
	wantSeen(t, s, 1, 5, api.ErrStale, 2)
}

// P8.2: Check's error comes first and is not kept; nobody's commands are never kept.
func TestNotKept(t *testing.T) {
	s := conf.New()
	wantUnchanged(t, s, ofClient(1, 1, putPool("A")), api.ErrName)
	wantSeen(t, s, 1, 0, api.OK, 0)
	wantResult(t, s, ofClient(1, 2, putPool("a")), api.OK, 1)
	wantUnchanged(t, s, ofClient(1, 2, putPool("A")), api.ErrName)
	wantUnchanged(t, s, ofClient(1, 1, putPool("a", target("t", -1))), api.ErrWeight)
	wantUnchanged(t, s, ofClient(1, 3, putPool("a", many(17)...)), api.ErrLimit)
	wantUnchanged(t, s, ofClient(1, 3, expecting(-2, putPool("a"))), api.ErrArg)
	wantSeen(t, s, 1, 2, api.OK, 1)
	for i := range 3 {
		wantResult(t, s, putPool("a"), api.OK, 2+i)
	}
	wantSeen(t, s, 0, 0, api.OK, 0)
}

// P8.2: MaxPools and MaxRoutes: those that are there may be put again.
func TestMaxPoolsAndRoutes(t *testing.T) {
	s := conf.New()
	for i := range api.MaxPools {
		wantResult(t, s, putPool(fmt.Sprintf("p%d", i)), api.OK, i+1)
	}
	wantUnchanged(t, s, putPool("more"), api.ErrLimit)
	wantUnchanged(t, s, ofClient(1, 1, putPool("more")), api.ErrLimit)
	wantSeen(t, s, 1, 1, api.ErrLimit, api.MaxPools)
	wantResult(t, s, putPool("p0", target("t", 1)), api.OK, api.MaxPools+1)
	version := api.MaxPools + 1
	for i := range api.MaxRoutes {
		version++
		wantResult(t, s, putRoute(fmt.Sprintf("h%d", i%3), fmt.Sprintf("/%d", i), "p1"), api.OK, version)
	}
	wantUnchanged(t, s, putRoute("h", "/more", "p1"), api.ErrLimit)
	wantUnchanged(t, s, putRoute("h", "/more", "gone"), api.ErrGone)
	wantUnchanged(t, s, expecting(0, putRoute("h", "/more", "p1")), api.ErrStale)
	wantResult(t, s, putRoute("h0", "/0", "p2"), api.OK, version+1)
	wantUnchanged(t, s, putRoute("h1", "/0", "p2"), api.ErrLimit)
	wantResult(t, s, dropRoute("h0", "/0"), api.OK, version+2)
	wantResult(t, s, putRoute("h", "/more", "p1"), api.OK, version+3)
	wantUnchanged(t, s, putRoute("h0", "/0", "p2"), api.ErrLimit)
	wantResult(t, s, dropPool("p31"), api.OK, version+4)
	wantResult(t, s, putPool("more"), api.OK, version+5)
	wantUnchanged(t, s, putPool("p31"), api.ErrLimit)
	if c := s.Config(); len(c.Pools) != api.MaxPools || len(c.Routes) != api.MaxRoutes {
		t.Errorf("there are %d pools, %d routes", len(c.Pools), len(c.Routes))
	}
}

// size is how many bytes a configuration has.
func size(c api.Config) int { return len(configBytes(c)) }

// fat are targets whose bytes are, all together and with their number, so many: 10 to 16 * 73 and 1.
func fat(bytes int) []api.Target {
	var l []api.Target
	left := bytes - 1
	for left > 0 {
		n := min(left, 9+api.MaxName)
		if left > n && left-n < 10 {
			n -= 10
		}
		l = append(l, target(strings.Repeat("t", n-9), 1))
		left -= n
	}
	return l
}

// filled is a store whose configuration has that many bytes: a small pool p0, a route to it, and fat pools from fa on.
func filled(t *testing.T, bytes int) *conf.Store {
	t.Helper()
	s := conf.New()
	wantResult(t, s, putPool("p0", target("t", 1)), api.OK, 1)
	wantResult(t, s, putRoute("h", "/", "p0"), api.OK, 2)
	for i := 0; size(s.Config()) < bytes; i++ {
		n := min(bytes-size(s.Config())-3, 1100)
		if left := bytes - size(s.Config()) - 3 - n; left > 0 && left < 20 {
			n -= 20
		}
		wantResult(t, s, putPool(fmt.Sprintf("f%c", 'a'+i), fat(n)...), api.OK, 3+i)
	}
	if size(s.Config()) != bytes {
		t.Fatalf("the configuration has %d bytes; want %d", size(s.Config()), bytes)
	}
	return s
}

// P8.2: MaxConf, by pools and by routes, new ones and those that are there.
func TestMaxConf(t *testing.T) {
	for short := range 24 {
		room := func(s *conf.Store) int { return api.MaxConf - size(s.Config()) }
		for _, c := range []api.Command{
			putPool("x"), putPool("x", target("tt", 1)), putPool("p0", target("t", 1), target("tt", 2)), putPool("p0", target("ttt", 1)), putPool("p0"), putPool("fa"), putPool("p0", target("u", 2)),
			putRoute("h.h", "/hh", "p0"), putRoute("h", "/", "fa"), putRoute("h", "/", "p0"),
		} {
			s := filled(t, api.MaxConf-short)
			version := s.Config().Version
			needs := grown(s.Config(), c)
			if needs <= room(s) {
				wantResult(t, s, c, api.OK, version+1)
				if room(s) != short-needs {
					t.Errorf("%s: %d bytes are left; want %d", shown(c), room(s), short-needs)
				}
				continue
			}
			wantUnchanged(t, s, c, api.ErrLimit)
			wantUnchanged(t, s, ofClient(1, 1, c), api.ErrLimit)
		}
	}
	s := filled(t, api.MaxConf)
	wantUnchanged(t, s, putRoute("h", "/x", "gone"), api.ErrGone)
	wantUnchanged(t, s, expecting(0, putPool("x")), api.ErrStale)
}

// grown is by how many bytes a configuration would grow.
func grown(c api.Config, x api.Command) int {
	if x.Act == api.PutPool {
		by := len(texts(x.Pool) + targetBytes(x.Targets...))
		for _, p := range c.Pools {
			if p.Name == x.Pool {
				by -= len(texts(p.Name) + targetBytes(p.Targets...))
			}
		}
		return by
	}
	by := len(texts(x.Host, x.Prefix, x.Pool))
	for _, r := range c.Routes {
		if r.Host == x.Host && r.Prefix == x.Prefix {
			by -= len(texts(r.Host, r.Prefix, r.Pool))
		}
	}
	return by
}

// P1: a nil store.
func TestNilStore(t *testing.T) {
	var s *conf.Store
	for _, c := range append(eachAct(), api.Command{}, ofClient(1, 1, putPool("a")), putPool("A")) {
		if r := s.Do(c); r != (api.Result{E: api.ErrNil}) {
			t.Errorf("Do(%s) of nil: %v", shown(c), r)
		}
	}
	wantConfig(t, s, api.Config{})
	wantSeen(t, s, 1, 0, api.OK, 0)
	if len(s.Put()) != 0 || s.Fork() != nil {
		t.Error("a nil store has bytes, or a fork")
	}
}

// P3: what is handed in is not kept, what is told is new.
func TestStoreMemory(t *testing.T) {
	s := conf.New()
	l := append(many(2), target("spare", 9))[:2]
	c := putPool("p")
	c.Targets = l
	wantResult(t, s, c, api.OK, 1)
	want := told(s)
	if l[:3][2].Addr != "spare" || shown(c) != shown(putPool("p", many(2)...)) {
		t.Error("Do changed what was handed in")
	}
	l[0] = target("changed", 7)
	if told(s) != want {
		t.Errorf("what was handed in is kept: %s", told(s))
	}
	wantResult(t, s, putRoute("h", "/", "p"), api.OK, 2)
	want = told(s)
	shared, f := s.Config(), s.Fork()
	shared.Pools[0].Targets[0] = target("changed", 7)
	shared.Pools[0].Name, shared.Routes[0].Pool = "changed", "changed"
	clear(s.Put())
	other := f.Config()
	other.Pools[0].Targets[1] = target("changed", 7)
	if told(s) != want || told(f) != want {
		t.Errorf("what was told is kept: %s", told(s))
	}
	b := s.Put()
	loaded, _ := conf.Load(b)
	clear(b)
	if told(loaded) != want {
		t.Errorf("what was loaded changed with its bytes: %s", told(loaded))
	}
}

// P8.3, P4: forks go on apart.
func TestFork(t *testing.T) {
	s := conf.New()
	wantResult(t, s, ofClient(1, 1, putPool("a", target("t", 1))), api.OK, 1)
	wantResult(t, s, putRoute("h", "/", "a"), api.OK, 2)
	was := told(s)
	f := s.Fork()
	if told(f) != was {
		t.Errorf("the fork is %s; want %s", told(f), was)
	}
	wantResult(t, s, ofClient(1, 2, putPool("a", target("u", 2))), api.OK, 3)
	wantResult(t, s, ofClient(2, 1, dropRoute("h", "/")), api.OK, 4)
	wantResult(t, s, putPool("b"), api.OK, 5)
	if told(f) != was {
		t.Errorf("the fork went along: %s", told(f))
	}
	is := told(s)
	wantResult(t, f, ofClient(1, 9, putRoute("h", "/f", "a")), api.OK, 3)
	wantResult(t, f, putPool("a"), api.OK, 4)
	wantResult(t, f, dropRoute("h", "/"), api.OK, 5)
	wantResult(t, f, dropRoute("h", "/f"), api.OK, 6)
	wantResult(t, f, dropPool("a"), api.OK, 7)
	if told(s) != is {
		t.Errorf("the first one went along with its fork: %s", told(s))
	}
}
