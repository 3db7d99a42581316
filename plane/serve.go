package plane

import (
	"slices"

	"tollgate/api"
	"tollgate/head"
)

// Statuses.
const (
	goesOn    = 0
	taken     = 200
	noRequest = 400
	noRoute   = 404
	noTarget  = 503
)

// answer is a request on its way through the steps; each step finds what the next one needs.
type answer struct {
	config api.Config
	bytes  []byte
	draw   float64
	head   api.Head
	reply  api.Reply
}

// Serve answers a request.
func (p *Plane) Serve(b []byte, draw float64) api.Reply {
	if p == nil {
		return api.Reply{}
	}
	a := &answer{config: p.config, bytes: b, draw: draw}
	status := firstOf(a.parse, a.find, a.take)
	a.reply.Status, a.reply.Version = status, p.config.Version
	return a.reply
}

// firstOf is the status of the first step that has one.
func firstOf(steps ...func() int) int {
	for _, step := range steps {
		if status := step(); status != goesOn {
			return status
		}
	}
	return goesOn
}

func (a *answer) parse() int {
	h, _, e := head.Parse(a.bytes)
	if e != api.OK {
		return noRequest
	}
	a.head = h
	return goesOn
}

func (a *answer) find() int {
	r, ok := Find(a.config, a.head.Host, a.head.Path)
	if !ok {
		return noRoute
	}
	a.reply.Pool = r.Pool
	return goesOn
}

func (a *answer) take() int {
	named := func(p api.Pool) bool { return p.Name == a.reply.Pool }
	pool := slices.IndexFunc(a.config.Pools, named)
	if pool < 0 {
		return noTarget
	}
	targets := a.config.Pools[pool].Targets
	i, ok := Weigh(targets, a.draw)
	if !ok {
		return noTarget
	}
	a.reply.Addr = targets[i].Addr
	return taken
}
