package raft

import (
	"bytes"
	"slices"

	"tollgate/api"
	"tollgate/member"
)

// log is a snapshot and the entries behind it. What an entry or a snapshot holds is never changed, so forks may share it.
type log struct {
	base    api.Mark
	first   api.Members // those of base
	snap    []byte
	entries []api.Entry
}

func (l *log) fork() log {
	fork := *l
	fork.entries = slices.Clone(l.entries)
	return fork
}

func (l *log) last() int { return l.base.Index + len(l.entries) }

// full: are there as many entries as commands may fill?
func (l *log) full() bool { return len(l.entries) >= api.MaxLog }

// behind are the entries behind an index, which is from base's to the last one.
func (l *log) behind(index int) []api.Entry { return l.entries[index-l.base.Index:] }

// termAt is asked of base's index and of those of entries alone.
func (l *log) termAt(index int) int {
	if index == l.base.Index {
		return l.base.Term
	}
	return l.behind(index - 1)[0].Term
}

// end is the place of the last entry, or base.
func (l *log) end() api.Mark { return api.Mark{Index: l.last(), Term: l.termAt(l.last())} }

// has: is there an entry of that index and term?
func (l *log) has(m api.Mark) bool {
	return m.Index > l.base.Index && m.Index <= l.last() && l.termAt(m.Index) == m.Term
}

func (l *log) between(from, to int) []api.Entry {
	from, to = max(from, l.base.Index+1), min(to, l.last())
	if from > to {
		return nil
	}
	return cloneEntries(l.behind(from - 1)[:to-from+1])
}

// put lays entries, one behind the other, in the place of those from the first one's index on.
func (l *log) put(entries []api.Entry) {
	kept := l.entries[:entries[0].Index-l.base.Index-1]
	l.entries = append(kept, entries...)
}

// rebase puts a snapshot in the place of the entries up to its mark. Those behind it stay only if the log has the mark: else they belong to another log.
func (l *log) rebase(mark api.Mark, members api.Members, b []byte) {
	var stay []api.Entry
	if l.has(mark) {
		stay = slices.Clone(l.behind(mark.Index))
	}
	*l = log{base: mark, first: members, snap: bytes.Clone(b), entries: stay}
}

func (l *log) members() api.Members { return l.membersAt(l.last()) }

// membersAt are the members that the log makes up to an index.
func (l *log) membersAt(index int) api.Members {
	m := l.first
	for _, e := range l.entries[:index-l.base.Index] {
		if e.Kind == api.Turn {
			m = turned(m, e.Data)
		}
	}
	return m
}

// turned: bytes that are no change, or one that may not be, change nothing.
func turned(m api.Members, data []byte) api.Members {
	x, e := member.GetChange(data)
	if e != api.OK {
		return m
	}
	after, e := member.Apply(m, x)
	if e != api.OK {
		return m
	}
	return after
}

// turnBehind: does a Turn stand behind an index?
func (l *log) turnBehind(index int) bool {
	return slices.ContainsFunc(l.behind(index), func(e api.Entry) bool { return e.Kind == api.Turn })
}

// hint is from where on a leader shall try that told a place which the log has not: a whole term is left out at once, but nothing that is committed.
func (l *log) hint(index, commit int) int {
	if index > l.last() {
		return l.last() + 1
	}
	h := index
	for h-1 > commit && l.termAt(h-1) == l.termAt(index) {
		h--
	}
	return h
}

func cloneEntries(l []api.Entry) []api.Entry {
	l = slices.Clone(l)
	for i := range l {
		l[i].Data = bytes.Clone(l[i].Data)
	}
	return l
}

func cloneMembers(m api.Members) api.Members {
	return api.Members{Voters: slices.Clone(m.Voters), Learners: slices.Clone(m.Learners)}
}
