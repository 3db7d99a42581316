package cluster_test

import (
	"math"
	"testing"

	"tollgate/api"
	"tollgate/cluster"
	"tollgate/disk"
	"tollgate/flight"
	"tollgate/node"
)

// model is a cluster by the chapter's words, one behind the other.
type model struct {
	count int
	disks map[int]*disk.Disk
	nodes map[int]*node.Node // those that are up
	net   *flight.Net
}

func newModel(count, room int) *model {
	m := &model{count: count, disks: map[int]*disk.Disk{}, nodes: map[int]*node.Node{}, net: flight.New()}
	for n := 1; n <= count; n++ {
		m.disks[n] = disk.New(room)
		if x, e := node.Open(m.disks[n], n, voters(count), 3*n); e == api.OK {
			m.nodes[n] = x
		}
	}
	return m
}

// refused: ErrArg, if there is no such node; ErrDown, if it is down.
func (m *model) refused(n int) api.Errno {
	if n < 1 || n > m.count {
		return api.ErrArg
	}
	if m.nodes[n] == nil {
		return api.ErrDown
	}
	return api.OK
}

func (m *model) stepped(n int, o api.Out) api.Told {
	for _, p := range o.Msgs {
		m.net.Send(p.From, p.To, p.Bytes)
	}
	return api.Told{E: o.E, Node: n, Index: o.Index, Term: o.Term, Done: o.Done, Log: o.Log, Reads: o.Reads}
}

func (m *model) do(s api.Step) api.Told {
	x, e := m.nodes[s.Node], m.refused(s.Node)
	refused := api.Told{E: e, Node: s.Node}
	switch s.Kind {
	case api.Tick, api.Submit, api.Reform, api.Ask:
		if e != api.OK {
			return refused
		}
		switch s.Kind {
		case api.Tick:
			return m.stepped(s.Node, x.Tick(s.Draw))
		case api.Submit:
			return m.stepped(s.Node, x.Submit(s.Command))
		case api.Reform:
			return m.stepped(s.Node, x.Change(s.Change))
		}
		return m.stepped(s.Node, x.Read(s.Tag))
	case api.Deliver:
		return m.deliver(s)
	case api.Lose:
		_, e := m.net.Take(s.At)
		return api.Told{E: e}
	case api.Double:
		_, e := m.net.Double(s.At)
		return api.Told{E: e}
	case api.Part:
		return api.Told{E: m.net.Part(s.Node, s.To)}
	case api.Heal:
		return api.Told{E: m.net.Heal(s.Node, s.To)}
	case api.Crash:
		if e == api.OK {
			m.disks[s.Node].Crash(s.Keep)
			delete(m.nodes, s.Node)
		}
		return refused
	case api.Start:
		return m.start(s)
	}
	return api.Told{E: api.ErrArg, Node: s.Node}
}

func (m *model) deliver(s api.Step) api.Told {
	p, e := m.net.Take(s.At)
	if e != api.OK {
		return api.Told{E: e}
	}
	switch e := m.refused(p.To); e {
	case api.ErrArg:
		return api.Told{E: e}
	case api.ErrDown:
		return api.Told{E: e, Node: p.To}
	}
	return m.stepped(p.To, m.nodes[p.To].Take(p.Bytes, s.Draw))
}

func (m *model) start(s api.Step) api.Told {
	switch e := m.refused(s.Node); e {
	case api.OK:
		return api.Told{E: api.ErrKnown, Node: s.Node}
	case api.ErrArg:
		return api.Told{E: e, Node: s.Node}
	}
	x, e := node.Open(m.disks[s.Node], s.Node, voters(m.count), s.Draw)
	if e == api.OK {
		m.nodes[s.Node] = x
	}
	return api.Told{E: e, Node: s.Node}
}

// ofNode is what a cluster should tell of a node.
func (m *model) ofNode(n int) string {
	x := m.nodes[n]
	all := shown(x != nil) + shown(x.View()) + shown(x.Config()) + shown(x.Applied()) + shown(x.Entries(math.MinInt, math.MaxInt))
	for i, r := range requests() {
		all += shown(x.Serve([]byte(r), float64(i)/4)) + shown(int(m.refused(n)))
	}
	return all
}

// pair is a cluster beside its model.
type pair struct {
	*cluster.Cluster
	t     *testing.T
	model *model
}

func newPair(t *testing.T, nodes, room int) *pair {
	t.Helper()
	return &pair{Cluster: made(t, nodes, room), t: t, model: newModel(nodes, room)}
}

// Do does a step with both, and holds what they tell, and what can be seen then, against each other. What is handed in and what is answered is spoilt behind each call (P3).
func (p *pair) Do(s api.Step) api.Told {
	p.t.Helper()
	should := p.model.do(s)
	handed := s
	handed.Keep = spare(s.Keep, 99, 98)
	handed.Command.Targets = spare(s.Command.Targets, api.Target{Addr: "behind", Weight: 9})
	before := shown(handed)
	told := p.Cluster.Do(handed)
	if shown(told) != shown(should) {
		p.t.Fatalf("%+v tells\n%+v\nwant\n%+v", s, told, should)
	}
	if shown(handed) != before || len(s.Keep) > 0 && handed.Keep[:len(s.Keep)+1][len(s.Keep)] != 99 || len(s.Command.Targets) > 0 && handed.Command.Targets[:len(s.Command.Targets)+1][len(s.Command.Targets)].Addr != "behind" {
		p.t.Fatalf("%s was handed in; behind the call it is %+v", before, handed)
	}
	clear(handed.Keep)
	clear(handed.Command.Targets)
	spoil(told)
	return should
}

// same holds all that can be seen against the model.
func (p *pair) same() {
	p.t.Helper()
	spoilLooks(p.Cluster)
	if got, want := shown(p.Under()), shown(p.model.net.Under()); got != want {
		p.t.Fatalf("under way is\n%s\nwant\n%s", got, want)
	}
	for n := range p.model.count + 2 {
		if got, want := ofNode(p.Cluster, n), p.model.ofNode(n); got != want {
			p.t.Fatalf("node %d is\n%s\nwant\n%s", n, got, want)
		}
	}
}
