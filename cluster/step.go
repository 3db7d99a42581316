package cluster

import (
	"tollgate/api"
	"tollgate/node"
)

// action is how the steps of a kind are done.
type action struct {
	kind api.StepKind
	do   func(c *Cluster, s api.Step) api.Told
}

func actions() []action {
	return []action{
		{api.Tick, (*Cluster).tick},
		{api.Deliver, (*Cluster).deliver},
		{api.Lose, (*Cluster).lose},
		{api.Double, (*Cluster).double},
		{api.Part, (*Cluster).part},
		{api.Heal, (*Cluster).heal},
		{api.Crash, (*Cluster).crash},
		{api.Start, (*Cluster).start},
		{api.Submit, (*Cluster).submit},
		{api.Reform, (*Cluster).reform},
		{api.Ask, (*Cluster).ask},
	}
}

// Do does a step.
func (c *Cluster) Do(s api.Step) api.Told {
	if c == nil {
		return api.Told{E: api.ErrNil}
	}
	for _, a := range actions() {
		if a.kind == s.Kind {
			return a.do(c, s)
		}
	}
	// Only of kinds that are named is the node another one than the step's, or none.
	return api.Told{E: api.ErrArg, Node: s.Node}
}

// on has a node do a step, and sends what it says. What can't be sent is lost, as on any way.
func (c *Cluster) on(n int, do func(up *node.Node) api.Out) api.Told {
	up, e := c.at(n)
	if e != api.OK {
		return api.Told{E: e, Node: n}
	}
	o := do(up)
	for _, p := range o.Msgs {
		c.net.Send(p.From, p.To, p.Bytes)
	}
	return api.Told{E: o.E, Node: n, Index: o.Index, Term: o.Term, Done: o.Done, Log: o.Log, Reads: o.Reads}
}

func (c *Cluster) tick(s api.Step) api.Told {
	return c.on(s.Node, func(up *node.Node) api.Out {
		c.net.Tick(s.Node)
		return up.Tick(s.Draw)
	})
}

func (c *Cluster) submit(s api.Step) api.Told {
	return c.on(s.Node, func(up *node.Node) api.Out { return up.Submit(s.Command) })
}

func (c *Cluster) reform(s api.Step) api.Told {
	return c.on(s.Node, func(up *node.Node) api.Out { return up.Change(s.Change) })
}

func (c *Cluster) ask(s api.Step) api.Told {
	return c.on(s.Node, func(up *node.Node) api.Out { return up.Read(s.Tag) })
}

// deliver: of a node that there is not, which a change of members may have named, nothing is told but the error.
func (c *Cluster) deliver(s api.Step) api.Told {
	p, e := c.net.Take(s.At)
	if e != api.OK {
		return api.Told{E: e}
	}
	if !c.has(p.To) {
		return api.Told{E: api.ErrArg}
	}
	return c.on(p.To, func(up *node.Node) api.Out { return up.Take(p.Bytes, s.Draw) })
}

func (c *Cluster) lose(s api.Step) api.Told {
	_, e := c.net.Take(s.At)
	return api.Told{E: e}
}

func (c *Cluster) double(s api.Step) api.Told {
	_, e := c.net.Double(s.At)
	return api.Told{E: e}
}

func (c *Cluster) part(s api.Step) api.Told { return api.Told{E: c.net.Part(s.Node, s.To)} }

func (c *Cluster) heal(s api.Step) api.Told { return api.Told{E: c.net.Heal(s.Node, s.To)} }

func (c *Cluster) crash(s api.Step) api.Told {
	_, e := c.at(s.Node)
	if e == api.OK {
		h := &c.hosts[s.Node-1]
		h.disk.Crash(s.Keep)
		h.node = nil
	}
	return api.Told{E: e, Node: s.Node}
}

func (c *Cluster) start(s api.Step) api.Told {
	_, e := c.at(s.Node)
	switch e {
	case api.OK:
		e = api.ErrKnown
	case api.ErrDown:
		e = c.open(s.Node, s.Draw)
	}
	return api.Told{E: e, Node: s.Node}
}
