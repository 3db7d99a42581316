package plane_test

import (
	"fmt"
	"math"
	"slices"
	"strings"
	"testing"

	"tollgate/api"
	"tollgate/plane"
)

// chance is a row of numbers that is the same each time.
type chance uint64

func (c *chance) below(n int) int {
	*c = *c*6364136223846793005 + 1442695040888963407
	return int(uint64(*c) >> 33 % uint64(n))
}

func (c *chance) of(l ...string) string { return l[c.below(len(l))] }

// shown tells floats by their bits.
func shown(c api.Config) string {
	var s strings.Builder
	fmt.Fprintf(&s, "version %d; routes %q; pools", c.Version, c.Routes)
	for _, p := range c.Pools {
		fmt.Fprintf(&s, " %q:", p.Name)
		for _, t := range p.Targets {
			fmt.Fprintf(&s, " %q %x", t.Addr, math.Float64bits(t.Weight))
		}
	}
	return s.String()
}

func wantConfig(t *testing.T, p *plane.Plane, want api.Config) {
	t.Helper()
	if got := shown(p.Config()); got != shown(want) {
		t.Errorf("the configuration is\n%s\nwant\n%s", got, shown(want))
	}
	if p.Version() != want.Version {
		t.Errorf("the version is %d; want %d", p.Version(), want.Version)
	}
}

// wantApplied: that error; with one the configuration is as it was.
func wantApplied(t *testing.T, p *plane.Plane, c api.Config, want api.Errno) {
	t.Helper()
	behind := p.Config()
	if want == api.OK {
		behind = c
	}
	if e := p.Apply(c); e != want {
		t.Errorf("Apply of version %d: %d; want %d", c.Version, e, want)
	}
	wantConfig(t, p, behind)
}

func sample(version int) api.Config {
	return api.Config{
		Version: version,
		Routes:  []api.Route{{Host: "a", Prefix: "/", Pool: "p"}, {Host: "a", Prefix: "/x", Pool: "q"}},
		Pools:   []api.Pool{{Name: "p", Targets: []api.Target{{Addr: "t:1", Weight: 1}, {Addr: "t:2"}, {Addr: "t:3", Weight: 3}}}, {Name: "q"}},
	}
}

// P10.3: a new one.
func TestNew(t *testing.T) {
	p := plane.New()
	wantConfig(t, p, api.Config{})
	if q := plane.New(); q == p || p.Apply(sample(1)) != api.OK || q.Version() != 0 {
		t.Error("two new planes are one")
	}
}

// P10.3, P10.7: only what is above the version is taken, whatever it is.
func TestApply(t *testing.T) {
	p := plane.New()
	for _, version := range []int{0, -1, math.MinInt} {
		wantApplied(t, p, sample(version), api.ErrStale)
	}
	wantApplied(t, p, sample(1), api.OK)
	other := api.Config{Routes: []api.Route{{Host: "z"}}}
	for _, version := range []int{1, 0, -1, math.MinInt} {
		other.Version = version
		wantApplied(t, p, other, api.ErrStale)
		wantApplied(t, p, sample(version), api.ErrStale)
	}
	other.Version = 2
	wantApplied(t, p, other, api.OK)
	wantApplied(t, p, sample(10), api.OK)
	wantApplied(t, p, sample(9), api.ErrStale)
	wantApplied(t, p, sample(10), api.ErrStale)
	wantApplied(t, p, api.Config{Version: 11}, api.OK)
	odd := api.Config{Version: math.MaxInt, Routes: []api.Route{{}, {}, {Host: "\xff"}}, Pools: []api.Pool{{Targets: targets(nan, infinite, below0, -1)}, {}, {Name: "p"}, {Name: "p"}}}
	wantApplied(t, p, odd, api.OK)
	wantApplied(t, p, odd, api.ErrStale)
	wantApplied(t, p, sample(math.MinInt), api.ErrStale)
}

// P1, P10.3, P10.4: a nil plane.
func TestNil(t *testing.T) {
	var p *plane.Plane
	for _, version := range []int{-1, 0, 1, math.MaxInt} {
		if e := p.Apply(sample(version)); e != api.ErrNil {
			t.Errorf("Apply of a nil plane: %d", e)
		}
	}
	wantConfig(t, p, api.Config{})
	for _, text := range []string{"", "GET / HTTP/1.1\r\nhost: a\r\n\r\n"} {
		if r := p.Serve([]byte(text), 0); r != (api.Reply{}) {
			t.Errorf("Serve of a nil plane: %v", r)
		}
	}
}

// spoil changes all that a configuration's lists hold, with the room behind them.
func spoil(c api.Config) {
	for _, p := range c.Pools[:cap(c.Pools)] {
		for i := range p.Targets[:cap(p.Targets)] {
			p.Targets[:cap(p.Targets)][i] = api.Target{Addr: "spoiled", Weight: nan}
		}
	}
	for i := range c.Pools[:cap(c.Pools)] {
		c.Pools[:cap(c.Pools)][i] = api.Pool{Name: "spoiled"}
	}
	for i := range c.Routes[:cap(c.Routes)] {
		c.Routes[:cap(c.Routes)][i] = api.Route{Host: "spoiled"}
	}
}

// P3: what is handed in is not changed and not kept, what is answered is not what is kept.
func TestMemory(t *testing.T) {
	const ask = "GET / HTTP/1.1\r\nhost: a\r\n\r\n"
	p := plane.New()
	c := sample(1)
	c.Routes = append(slices.Grow(c.Routes, 3), api.Route{Host: "behind"})[:2]
	c.Pools = append(slices.Grow(c.Pools, 3), api.Pool{Name: "behind"})[:2]
	wantApplied(t, p, c, api.OK)
	p.Serve([]byte(ask), 0.5)
	if shown(c) != shown(sample(1)) || c.Routes[:3][2].Host != "behind" || c.Pools[:3][2].Name != "behind" {
		t.Errorf("what was handed in became %s", shown(c))
	}
	spoil(c)
	wantConfig(t, p, sample(1))
	spoil(p.Config())
	wantConfig(t, p, sample(1))
	if r := p.Serve([]byte(ask), 0); r != (api.Reply{Status: 200, Version: 1, Pool: "p", Addr: "t:1"}) {
		t.Errorf("it answers %v", r)
	}
}

// P10.7 (E2): whatever came between, planes of one configuration are alike; the version only rises.
func TestAlike(t *testing.T) {
	c := chance(4)
	p, q := plane.New(), plane.New()
	version := 0
	for range 3000 {
		next := someConfig(&c)
		next.Version = c.below(version + 3)
		want := api.OK
		if next.Version <= version {
			want = api.ErrStale
		}
		wantApplied(t, p, next, want)
		version = max(version, next.Version)
		if c.below(3) > 0 {
			continue
		}
		if q.Apply(p.Config()); shown(q.Config()) != shown(p.Config()) {
			t.Fatalf("the planes are\n%s\n%s", shown(p.Config()), shown(q.Config()))
		}
		b, draw := []byte(someRequest(&c)), someWeight(&c)
		if r, s := p.Serve(b, draw), q.Serve(b, draw); r != s {
			t.Fatalf("Serve(%q, %v): %v and %v", b, draw, r, s)
		}
	}
	if version < 100 {
		t.Errorf("only version %d was reached", version)
	}
}
