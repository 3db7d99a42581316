package node

import (
	"tollgate/api"
	"tollgate/conf"
	"tollgate/raft"
	"tollgate/snap"
	"tollgate/wire"
)

// step is one thing that is asked of a core.
type step interface {
	on(c *raft.Core) api.Output
}

type (
	tick struct{ draw int }
	take struct {
		bytes []byte
		draw  int
	}
	submit struct{ command api.Command }
	change struct{ change api.Change }
	read   struct{ tag int }
)

func (s tick) on(c *raft.Core) api.Output { return c.Tick(s.draw) }

func (s take) on(c *raft.Core) api.Output {
	m, e := wire.GetMsg(s.bytes)
	if e != api.OK {
		return api.Output{E: e}
	}
	return c.Take(m, s.draw)
}

func (s submit) on(c *raft.Core) api.Output {
	b, e := conf.PutCommand(s.command)
	if e != api.OK {
		return api.Output{E: e}
	}
	return c.Propose(b)
}

func (s change) on(c *raft.Core) api.Output { return c.Change(s.change) }

func (s read) on(c *raft.Core) api.Output { return c.Read(s.tag) }

// outcome is what a step came to on a fork of the core.
type outcome struct {
	api.Output
	core    *raft.Core
	install api.Snap // what Output's Snap holds
	from    state    // what the entries are applied to
}

// installs: did the step put a snapshot in the place of the log?
func (o outcome) installs() bool { return len(o.Snap) > 0 }

// does does a step. Until it is kept it is done on a fork alone: one that can't be kept has never been.
func (n *Node) does(s step) api.Out {
	if n == nil {
		return api.Out{E: api.ErrNil}
	}
	o, e := n.tries(s)
	if e != api.OK {
		return api.Out{E: e}
	}
	if e := n.keep(o); e != api.OK {
		return api.Out{E: e}
	}
	n.core, n.state = o.core, o.from
	out := api.Out{Msgs: packets(o.Msgs), Reads: o.Reads}
	out.Log = n.core.Entries(n.applied+1, n.core.View().Commit)
	out.Done = n.apply(out.Log)
	n.show()
	n.makeRoom()
	out.Index, out.Term = proposed(s, o.Output)
	return out
}

// tries does a step on a fork, and reads the snapshot that came with it: one that can't be read must not be kept, for no node would open on it.
func (n *Node) tries(s step) (outcome, api.Errno) {
	o := outcome{core: n.core.Fork(), from: n.state}
	o.Output = s.on(o.core)
	if o.E != api.OK || !o.installs() {
		return o, o.E
	}
	// The core has read it ahead: it has no error.
	o.install, _ = snap.Get(o.Snap)
	from, e := stateOf(o.install)
	if e != api.OK {
		return outcome{}, api.ErrForm
	}
	o.from = from
	return o, api.OK
}

// proposed is the place of what a step proposed: by both numbers it is known again when it is done, for another leader may put something else at that index.
func proposed(s step, o api.Output) (index, term int) {
	switch s.(type) {
	case submit, change:
		return o.Index, o.Hard.Term
	}
	return 0, 0
}

// packets are messages as bytes. A core's messages are right but beyond MaxNum: there one has no bytes, which every node refuses.
func packets(messages []api.Msg) []api.Packet {
	var all []api.Packet
	for _, m := range messages {
		b, _ := wire.PutMsg(m)
		all = append(all, api.Packet{From: m.From, To: m.To, Bytes: b})
	}
	return all
}
