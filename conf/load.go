package conf

import (
	"cmp"
	"maps"
	"slices"

	"tollgate/api"
)

// Put is a store's bytes.
func (s *Store) Put() []byte {
	// A version beyond all numbers has no bytes; without them the rest would be taken for another store's.
	if s == nil || s.version > api.MaxNum {
		return nil
	}
	b := addConfig(addNumbers(nil, s.version), s.Config())
	b = addNumbers(b, len(s.clients))
	for _, client := range slices.Sorted(maps.Keys(s.clients)) {
		l := s.clients[client]
		b = addNumbers(b, client, l.seq, int(l.result.E), l.result.Version)
	}
	return b
}

// Load is the store of bytes.
func Load(b []byte) (*Store, api.Errno) {
	r := reader{bytes: b}
	c := content{}
	c.Version = r.number()
	from := r.at
	c.Pools = r.pools()
	c.Routes = r.routes()
	c.size = r.at - from
	c.clients = r.clients()
	r.end()
	if r.errno != api.OK {
		return nil, r.errno
	}
	s := c.store()
	if !c.mayBe(s) {
		return nil, api.ErrForm
	}
	return s, api.OK
}

// content is what a store's bytes say, in their order.
type content struct {
	api.Config
	size    int // bytes of the configuration
	clients []client
}

type client struct {
	number int
	last
}

func (r *reader) clients() []client {
	var clients []client
	for range r.count(api.MaxClient) {
		c := client{number: r.number()}
		c.seq = r.number()
		c.result.E = api.Errno(r.number())
		c.result.Version = r.number()
		clients = append(clients, c)
	}
	return clients
}

func (c content) store() *Store {
	s := New()
	s.version = c.Version
	for _, p := range c.Pools {
		s.pools[p.Name] = p
	}
	for _, r := range c.Routes {
		s.routes[placeOf(r)] = r
	}
	for _, x := range c.clients {
		s.clients[x.number] = x.last
	}
	return s
}

// mayBe: may the store that was made of it be one that commands made?
func (c content) mayBe(s *Store) bool {
	return rise(c.Pools, func(a, b api.Pool) int { return cmp.Compare(a.Name, b.Name) }) &&
		rise(c.Routes, func(a, b api.Route) int { return comparePlaces(placeOf(a), placeOf(b)) }) &&
		rise(c.clients, func(a, b client) int { return cmp.Compare(a.number, b.number) }) &&
		c.size <= api.MaxConf &&
		!slices.ContainsFunc(c.Pools, func(p api.Pool) bool { return !poolMayBe(p) }) &&
		!slices.ContainsFunc(c.Routes, func(r api.Route) bool { return !s.routeMayBe(r) }) &&
		!slices.ContainsFunc(c.clients, func(x client) bool { return !s.clientMayBe(x) })
}

func rise[T any](l []T, compare func(a, b T) int) bool {
	for i := 1; i < len(l); i++ {
		if compare(l[i-1], l[i]) >= 0 {
			return false
		}
	}
	return true
}

func poolMayBe(p api.Pool) bool {
	return isName(p.Name) && addressesMayBe(p.Targets) && weightsMayBe(p.Targets)
}

func (s *Store) routeMayBe(r api.Route) bool {
	_, there := s.pools[r.Pool]
	return isHost(r.Host) && isPrefix(r.Prefix) && there
}

func (s *Store) clientMayBe(c client) bool {
	return within(c.number, 1, api.MaxClient) && c.seq > 0 && wasTold(c.result.E) && c.result.Version <= s.version
}

// wasTold: may a command that was kept for its client have come to it?
func wasTold(e api.Errno) bool {
	switch e {
	case api.OK, api.ErrLimit, api.ErrGone, api.ErrStale, api.ErrBusy:
		return true
	}
	return false
}
