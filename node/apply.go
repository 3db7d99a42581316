package node

import (
	"tollgate/api"
	"tollgate/conf"
	"tollgate/member"
)

// state is what the entries up to an index made.
type state struct {
	applied int
	members api.Members
	store   *conf.Store
}

// stateOf is the state of a snapshot, or of the mark of nothing.
func stateOf(s api.Snap) (state, api.Errno) {
	made := state{applied: s.Mark.Index, members: s.Members, store: conf.New()}
	if s.Mark == (api.Mark{}) {
		return made, api.OK
	}
	store, e := conf.Load(s.Data)
	if e != api.OK {
		return state{}, e
	}
	made.store = store
	return made, api.OK
}

// apply does entries, one behind the other, and tells what commands came to.
func (s *state) apply(entries []api.Entry) []api.Done {
	var done []api.Done
	for _, x := range entries {
		switch x.Kind {
		case api.Data:
			done = append(done, api.Done{Index: x.Index, Term: x.Term, Result: s.command(x.Data)})
		case api.Turn:
			s.turn(x.Data)
		}
		s.applied = x.Index
	}
	return done
}

// command: bytes that are no command change nothing, but they have an index, and so a result.
func (s *state) command(b []byte) api.Result {
	c, e := conf.GetCommand(b)
	if e != api.OK {
		return api.Result{E: api.ErrForm, Version: s.store.Config().Version}
	}
	return s.store.Do(c)
}

// turn: as in the core, bytes that are no change, or one that may not be, change nothing.
func (s *state) turn(b []byte) {
	x, e := member.GetChange(b)
	if e != api.OK {
		return
	}
	if after, e := member.Apply(s.members, x); e == api.OK {
		s.members = after
	}
}

// show gives the gate the configuration; it takes a newer one alone.
func (n *Node) show() { n.plane.Apply(n.store.Config()) }
