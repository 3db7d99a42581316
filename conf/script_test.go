package conf_test

import (
	"cmp"
	"fmt"
	"slices"
	"strings"
	"testing"

	"tollgate/api"
	"tollgate/conf"
)

// chance is a row of numbers that is the same each time.
type chance uint64

func (c *chance) below(n int) int {
	*c = *c*6364136223846793005 + 1442695040888963407
	return int(uint64(*c) >> 33 % uint64(n))
}

// plain is a store as lists: its configuration, in the order in which things came, and what clients were told.
type plain struct {
	c    api.Config
	seqs [api.MaxClient + 1]int
	told [api.MaxClient + 1]api.Result
	oks  int
}

func (p *plain) do(c api.Command) api.Result {
	if e := conf.Check(c); e != api.OK {
		return api.Result{E: e, Version: p.c.Version}
	}
	if c.Client > 0 && c.Seq == p.seqs[c.Client] {
		return p.told[c.Client]
	}
	if c.Client > 0 && c.Seq < p.seqs[c.Client] {
		return api.Result{E: api.ErrStale, Version: p.c.Version}
	}
	e := p.act(c)
	if e == api.OK {
		p.c.Version++
		p.oks++
	}
	r := api.Result{E: e, Version: p.c.Version}
	if c.Client > 0 {
		p.seqs[c.Client], p.told[c.Client] = c.Seq, r
	}
	return r
}

func (p *plain) act(c api.Command) api.Errno {
	if c.Expect >= 0 && c.Expect != p.c.Version {
		return api.ErrStale
	}
	pool := slices.IndexFunc(p.c.Pools, func(x api.Pool) bool { return x.Name == c.Pool })
	route := slices.IndexFunc(p.c.Routes, func(x api.Route) bool { return x.Host == c.Host && x.Prefix == c.Prefix })
	next := api.Config{Version: p.c.Version, Pools: slices.Clone(p.c.Pools), Routes: slices.Clone(p.c.Routes)}
	switch c.Act {
	case api.PutPool:
		if pool < 0 {
			next.Pools = append(next.Pools, api.Pool{Name: c.Pool})
			pool = len(next.Pools) - 1
		}
		next.Pools[pool].Targets = c.Targets
	case api.DropPool:
		if pool < 0 {
			return api.ErrGone
		}
		if slices.ContainsFunc(next.Routes, func(x api.Route) bool { return x.Pool == c.Pool }) {
			return api.ErrBusy
		}
		next.Pools = slices.Delete(next.Pools, pool, pool+1)
	case api.PutRoute:
		if pool < 0 {
			return api.ErrGone
		}
		if route < 0 {
			next.Routes = append(next.Routes, api.Route{Host: c.Host, Prefix: c.Prefix})
			route = len(next.Routes) - 1
		}
		next.Routes[route].Pool = c.Pool
	case api.DropRoute:
		if route < 0 {
			return api.ErrGone
		}
		next.Routes = slices.Delete(next.Routes, route, route+1)
	}
	if len(next.Pools) > api.MaxPools || len(next.Routes) > api.MaxRoutes || size(next) > api.MaxConf {
		return api.ErrLimit
	}
	p.c = next
	return api.OK
}

// sorted is the configuration as it must be told.
func (p *plain) sorted() api.Config {
	c := api.Config{Version: p.c.Version, Pools: slices.Clone(p.c.Pools), Routes: slices.Clone(p.c.Routes)}
	slices.SortFunc(c.Pools, func(a, b api.Pool) int { return strings.Compare(a.Name, b.Name) })
	slices.SortFunc(c.Routes, func(a, b api.Route) int {
		return cmp.Or(strings.Compare(a.Host, b.Host), strings.Compare(a.Prefix, b.Prefix))
	})
	return c
}

func (p *plain) bytes() string {
	var l []seen
	for client, seq := range p.seqs {
		if seq > 0 {
			l = append(l, seen{client, seq, int(p.told[client].E), p.told[client].Version})
		}
	}
	return storeBytes(p.sorted(), l...)
}

// some is a command of few names, so that they meet; wide makes many names and long ones.
func some(c *chance, p *plain, wide bool) api.Command {
	names := 5
	if wide {
		names = 45
	}
	x := api.Command{Act: api.Act(1 + c.below(4)), Expect: -1}
	if wide && c.below(3) > 0 {
		x.Act = []api.Act{api.PutPool, api.PutRoute}[c.below(2)]
	}
	name := fmt.Sprintf("p%d", c.below(names))
	host, prefix := fmt.Sprintf("h%d.x", c.below(names/3)), fmt.Sprintf("/%d", c.below(names))
	if c.below(40) == 0 {
		name, host = "", "."
	}
	if x.Act == api.PutRoute || x.Act == api.DropRoute {
		x.Host, x.Prefix = host, prefix
	}
	if x.Act != api.DropRoute {
		x.Pool = name
	}
	if x.Act == api.PutPool {
		for i := range c.below(api.MaxTargets + 1) {
			x.Targets = append(x.Targets, target(strings.Repeat("t", 1+c.below(api.MaxName)), float64(i)/3))
		}
	}
	if c.below(2) == 0 {
		x.Client = 1 + c.below(4)
		x.Seq = max(1, p.seqs[x.Client]-1+c.below(4))
	}
	if c.below(4) == 0 {
		x.Expect = max(-1, p.c.Version-1+c.below(3))
	}
	return x
}

// P8.2 to P8.7: long scripts, beside the plain lists; loaded and forked on the way, all go on alike.
func TestScript(t *testing.T) {
	met := map[api.Errno]int{}
	for seed := range 20 {
		c := chance(seed)
		s, p := conf.New(), &plain{}
		for i := range 400 {
			x := some(&c, p, seed%2 == 1)
			r, want := s.Do(x), p.do(x)
			met[r.E]++
			if r != want || string(s.Put()) != p.bytes() {
				t.Fatalf("seed %d, step %d, %s: %v; want %v\n%s\nwant\n%s", seed, i, shown(x), r, want, configShown(s.Config()), configShown(p.sorted()))
			}
			if i%20 == 0 {
				wantConfig(t, s, p.sorted())
			}
			for client := range p.seqs {
				wantSeen(t, s, client, p.seqs[client], p.told[client].E, p.told[client].Version)
			}
			if s.Config().Version != p.oks {
				t.Fatalf("seed %d, step %d: version %d; %d were OK", seed, i, s.Config().Version, p.oks)
			}
			switch c.below(12) {
			case 0:
				s = load(t, string(s.Put()))
			case 1:
				s = s.Fork()
			}
		}
	}
	for _, e := range []api.Errno{api.OK, api.ErrLimit, api.ErrGone, api.ErrStale, api.ErrBusy, api.ErrName} {
		if met[e] < 50 {
			t.Errorf("error %d was met %d times only", e, met[e])
		}
	}
}

// P8.6 (E4): commands of clients that come again, later, and out of their turn, are done once.
func TestDoneOnce(t *testing.T) {
	for seed := range 30 {
		c := chance(seed)
		once, often := conf.New(), conf.New()
		var done []api.Command
		for i := range 80 {
			x := ofClient(1+i%3, 1+i/3, some(&c, &plain{}, false))
			first := once.Do(x)
			done = append(done, x)
			for range 1 + c.below(4) {
				if r := often.Do(x); r != first {
					t.Fatalf("seed %d: %s: %v; want %v", seed, shown(x), r, first)
				}
			}
			for range c.below(4) {
				often.Do(done[c.below(len(done))])
			}
			if told(often) != told(once) {
				t.Fatalf("seed %d: %s; want %s", seed, told(often), told(once))
			}
		}
	}
}

// P8.7 (E2): the same commands from the same bytes make the same store.
func TestSameCommands(t *testing.T) {
	c := chance(5)
	a, b, p := conf.New(), conf.New(), &plain{}
	for range 800 {
		x := some(&c, p, true)
		r := a.Do(x)
		p.do(x)
		bytes, e := conf.PutCommand(x)
		if e != api.OK {
			if r.E != e {
				t.Fatalf("%s: %v; want error %d", shown(x), r, e)
			}
			continue
		}
		y, e := conf.GetCommand(bytes)
		if e != api.OK || b.Do(y) != r || told(a) != told(b) {
			t.Fatalf("%s: error %d; %s and %s", shown(x), e, told(a), told(b))
		}
	}
}

// P8.5 (E1): bytes that are turned here and there are refused, or are a store's that is put as the same bytes.
func TestLoadedIsPut(t *testing.T) {
	c := chance(9)
	from := storeBytes(api.Config{Version: 7, Pools: []api.Pool{{Name: "a"}, {Name: "b", Targets: many(2)}}, Routes: []api.Route{{Host: "h", Prefix: "/", Pool: "a"}, {Host: "i.x", Prefix: "/", Pool: "b"}}}, seen{1, 1, 0, 7}, seen{3, 200, 8, 2})
	right := 0
	for range 100000 {
		b := []byte(from)
		for range 1 + c.below(3) {
			b[c.below(len(b))] = byte(c.below(256)) >> c.below(8)
		}
		if c.below(9) == 0 {
			b = b[:c.below(len(b)+1)]
		}
		s, e := conf.Load(b)
		if e != api.OK {
			wantNotLoaded(t, fmt.Sprintf("%x again", b), string(b), e)
			continue
		}
		right++
		if string(s.Put()) != string(b) {
			t.Fatalf("%x was loaded as %s", b, told(s))
		}
	}
	if right < 5000 {
		t.Errorf("only %d rows of bytes were right", right)
	}
}
