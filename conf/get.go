package conf

import (
	"math"

	"tollgate/api"
	"tollgate/wire"
)

// GetCommand is the command of bytes.
func GetCommand(b []byte) (api.Command, api.Errno) {
	var c api.Command
	r := reader{bytes: b}
	c.Act = api.Act(r.number())
	c.Client = r.number()
	c.Seq = r.number()
	c.Expect = r.number() - 1
	c.Host = r.text()
	c.Prefix = r.text()
	c.Pool = r.text()
	c.Targets = r.targets()
	r.end()
	if r.errno == api.OK && Check(c) != api.OK {
		r.fail(api.ErrForm)
	}
	if r.errno != api.OK {
		return api.Command{}, r.errno
	}
	return c, api.OK
}

// reader goes through bytes from the left; behind its first fault it stands still, and all that it tells is nothing.
type reader struct {
	bytes []byte
	at    int
	errno api.Errno
}

func (r *reader) fail(e api.Errno) {
	if r.errno == api.OK {
		r.errno = e
	}
}

func (r *reader) number() int {
	if r.errno != api.OK {
		return 0
	}
	n, at, e := wire.TakeNumber(r.bytes, r.at)
	if e != api.OK {
		r.fail(e)
		return 0
	}
	r.at = at
	return n
}

// count is how many of something, or bytes, there would be.
func (r *reader) count(most int) int {
	n := r.number()
	if n > most {
		r.fail(api.ErrLimit)
		return 0
	}
	return n
}

func (r *reader) take(size int) []byte {
	if size > len(r.bytes)-r.at {
		r.fail(api.ErrShort)
	}
	if r.errno != api.OK {
		return nil
	}
	from := r.at
	r.at += size
	return r.bytes[from:r.at]
}

// text is held against the longest kind's limit only: what it may be is asked where all is read.
func (r *reader) text() string { return string(r.take(r.count(api.MaxPrefix))) }

func (r *reader) weight() float64 {
	var bits uint64
	for _, c := range r.take(8) {
		bits = bits<<8 | uint64(c)
	}
	return math.Float64frombits(bits)
}

func (r *reader) targets() []api.Target {
	var targets []api.Target
	for range r.count(api.MaxTargets) {
		addr := r.text()
		targets = append(targets, api.Target{Addr: addr, Weight: r.weight()})
	}
	return targets
}

func (r *reader) pools() []api.Pool {
	var pools []api.Pool
	for range r.count(api.MaxPools) {
		name := r.text()
		pools = append(pools, api.Pool{Name: name, Targets: r.targets()})
	}
	return pools
}

func (r *reader) routes() []api.Route {
	var routes []api.Route
	for range r.count(api.MaxRoutes) {
		host := r.text()
		prefix := r.text()
		routes = append(routes, api.Route{Host: host, Prefix: prefix, Pool: r.text()})
	}
	return routes
}

func (r *reader) end() {
	if r.at < len(r.bytes) {
		r.fail(api.ErrForm)
	}
}
