package raft

import (
	"tollgate/api"
	"tollgate/member"
)

// Propose proposes a command.
func (c *Core) Propose(data []byte) api.Output {
	return c.stepped(0, func(s *step) api.Errno { return s.propose(data) })
}

func (s *step) propose(data []byte) api.Errno {
	if !s.leads() {
		return api.ErrLeader
	}
	if len(data) > api.MaxData {
		return api.ErrLimit
	}
	if s.full() {
		return api.ErrBusy
	}
	s.out.Index = s.last() + 1
	s.add(api.Data, data)
	return api.OK
}

// Change proposes a change of members.
func (c *Core) Change(x api.Change) api.Output {
	return c.stepped(0, func(s *step) api.Errno { return s.change(x) })
}

func (s *step) change(x api.Change) api.Errno {
	if !s.leads() {
		return api.ErrLeader
	}
	if !s.ownCommit() || s.turnBehind(s.commit) || s.full() {
		return api.ErrBusy
	}
	if _, e := member.Apply(s.members(), x); e != api.OK {
		return e
	}
	if x.Do == api.Promote && s.match[x.Node] < s.commit {
		return api.ErrBusy
	}
	// Apply has held it against all that PutChange asks.
	data, _ := member.PutChange(x)
	if x.Do == api.Add {
		s.expect(x.Node, s.last()+1)
	}
	s.out.Index = s.last() + 1
	s.add(api.Turn, data)
	return api.OK
}

// Read asks for a read.
func (c *Core) Read(tag int) api.Output {
	return c.stepped(0, func(s *step) api.Errno { return s.read(tag) })
}

func (s *step) read(tag int) api.Errno {
	if !s.leads() {
		return api.ErrLeader
	}
	if !s.ownCommit() || len(s.reads) >= api.MaxReads {
		return api.ErrBusy
	}
	s.round++
	s.reads = append(s.reads, waiting{api.Read{Tag: tag, Index: s.commit}, s.round})
	s.lookAtReads()
	// Of reads the one that was asked last passes last.
	if len(s.reads) > 0 {
		s.sendToAll()
	}
	return api.OK
}
