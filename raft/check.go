package raft

import (
	"slices"

	"tollgate/api"
	"tollgate/member"
	"tollgate/snap"
	"tollgate/wire"
)

// maxTaken is the greatest term and index of a message: what a core adds to them stays below MaxNum.
const maxTaken = api.MaxNum / 2

func within(n, least, most int) bool { return n >= least && n <= most }

func mayBegin(s api.Begin) bool {
	if !within(s.Id, 1, api.MaxNode) || !member.Right(s.Members) || !isBase(s.Base) {
		return false
	}
	if _, e := wire.PutHard(s.Hard); e != api.OK {
		return false
	}
	if !areRight(s.Entries) || !goOn(s.Base, s.Entries) || lastTerm(s.Base, s.Entries) > s.Hard.Term {
		return false
	}
	if s.Base == (api.Mark{}) {
		return len(s.Snap) == 0
	}
	return isSnap(s.Snap, s.Base, s.Members)
}

func isBase(m api.Mark) bool {
	return within(m.Index, 0, api.MaxNum) && within(m.Term, 0, api.MaxNum) && (m.Index == 0) == (m.Term == 0)
}

func areRight(l []api.Entry) bool {
	return !slices.ContainsFunc(l, func(x api.Entry) bool {
		_, e := wire.PutEntry(x)
		return e != api.OK
	})
}

// goOn: do entries stand behind a mark, index by index, with terms that never fall?
func goOn(from api.Mark, l []api.Entry) bool {
	for _, e := range l {
		if e.Index != from.Index+1 || e.Term < from.Term {
			return false
		}
		from = api.Mark{Index: e.Index, Term: e.Term}
	}
	return true
}

// lastTerm is the greatest one, where terms never fall.
func lastTerm(from api.Mark, l []api.Entry) int {
	if len(l) == 0 {
		return from.Term
	}
	return l[len(l)-1].Term
}

// mayTake: is a message one that the core looks at?
func (c *Core) mayTake(m api.Msg) bool {
	if _, e := wire.PutMsg(m); e != api.OK {
		return false
	}
	if m.To != c.id || m.From == c.id || max(m.Term, m.Index, m.LogTerm, m.Commit) > maxTaken {
		return false
	}
	switch m.Kind {
	case api.Append:
		return goOn(placeOf(m), m.Entries) && (len(m.Entries) == 0 || lastTerm(placeOf(m), m.Entries) <= m.Term)
	case api.Install:
		s, e := snap.Get(m.Data)
		return e == api.OK && s.Mark == placeOf(m) && m.LogTerm <= m.Term
	}
	return true
}

func placeOf(m api.Msg) api.Mark { return api.Mark{Index: m.Index, Term: m.LogTerm} }

// isSnap: are these a snapshot's bytes of just that mark and those members?
func isSnap(b []byte, mark api.Mark, members api.Members) bool {
	s, e := snap.Get(b)
	return e == api.OK && s.Mark == mark && slices.Equal(s.Members.Voters, members.Voters) && slices.Equal(s.Members.Learners, members.Learners)
}
