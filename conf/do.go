package conf

import (
	"slices"

	"tollgate/api"
)

// Do does a command.
func (s *Store) Do(c api.Command) api.Result {
	if s == nil {
		return api.Result{E: api.ErrNil}
	}
	if e := Check(c); e != api.OK {
		return api.Result{E: e, Version: s.version}
	}
	if c.Client == 0 {
		return s.done(c)
	}
	told := s.clients[c.Client]
	if c.Seq == told.seq {
		return told.result
	}
	if c.Seq < told.seq {
		return api.Result{E: api.ErrStale, Version: s.version}
	}
	result := s.done(c)
	s.clients[c.Client] = last{seq: c.Seq, result: result}
	return result
}

// done is what a command comes to that was not done yet.
func (s *Store) done(c api.Command) api.Result {
	e := s.act(c)
	if e == api.OK {
		s.version++
	}
	return api.Result{E: e, Version: s.version}
}

func (s *Store) act(c api.Command) api.Errno {
	if c.Expect >= 0 && c.Expect != s.version {
		return api.ErrStale
	}
	switch c.Act {
	case api.PutPool:
		return s.putPool(api.Pool{Name: c.Pool, Targets: slices.Clone(c.Targets)})
	case api.DropPool:
		return s.dropPool(c.Pool)
	case api.PutRoute:
		return s.putRoute(api.Route{Host: c.Host, Prefix: c.Prefix, Pool: c.Pool})
	}
	return s.dropRoute(place{c.Host, c.Prefix})
}

func (s *Store) putPool(p api.Pool) api.Errno {
	elder, there := s.pools[p.Name]
	grows := len(addPool(nil, p))
	if there {
		grows -= len(addPool(nil, elder))
	}
	if !there && len(s.pools) >= api.MaxPools || !s.mayGrow(grows) {
		return api.ErrLimit
	}
	s.pools[p.Name] = p
	return api.OK
}

// mayGrow: may the configuration have so many bytes more? (How many pools and routes there are is told by one byte each, up to their limits.)
func (s *Store) mayGrow(by int) bool { return len(addConfig(nil, s.Config()))+by <= api.MaxConf }

func (s *Store) dropPool(name string) api.Errno {
	if _, there := s.pools[name]; !there {
		return api.ErrGone
	}
	for _, r := range s.routes {
		if r.Pool == name {
			return api.ErrBusy
		}
	}
	delete(s.pools, name)
	return api.OK
}

func (s *Store) putRoute(r api.Route) api.Errno {
	if _, there := s.pools[r.Pool]; !there {
		return api.ErrGone
	}
	elder, there := s.routes[placeOf(r)]
	grows := len(addRoute(nil, r))
	if there {
		grows -= len(addRoute(nil, elder))
	}
	if !there && len(s.routes) >= api.MaxRoutes || !s.mayGrow(grows) {
		return api.ErrLimit
	}
	s.routes[placeOf(r)] = r
	return api.OK
}

func (s *Store) dropRoute(p place) api.Errno {
	if _, there := s.routes[p]; !there {
		return api.ErrGone
	}
	delete(s.routes, p)
	return api.OK
}
