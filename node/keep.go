package node

import (
	"tollgate/api"
	"tollgate/snap"
)

// firstError does one behind the other until one has an error.
func firstError(row ...func() api.Errno) api.Errno {
	for _, do := range row {
		if e := do(); e != api.OK {
			return e
		}
	}
	return api.OK
}

// keep puts on the disk what a step tells.
func (n *Node) keep(o outcome) api.Errno {
	row := []func() api.Errno{
		func() api.Errno { return n.log.SetHard(o.Hard) },
	}
	if o.installs() {
		row = append(row, n.installing(o)...)
	} else {
		row = append(row, func() api.Errno { return n.log.Append(o.Entries...) })
	}
	return firstError(append(row, n.log.Sync)...)
}

// installing syncs first: no snapshot may last whose term is above the node's, for no core begins with it.
func (n *Node) installing(o outcome) []func() api.Errno {
	mark := o.install.Mark
	behind := o.core.Entries(mark.Index, o.core.View().Last)
	return []func() api.Errno{
		n.log.Sync,
		func() api.Errno { return snap.Save(n.disk, o.install) },
		func() api.Errno { return n.log.Reset(mark) },
		func() api.Errno { return n.log.Append(behind...) },
	}
}

// makeRoom puts a snapshot in the place of what is applied, once that is enough. A disk that is too full for it now may have room at a later step.
func (n *Node) makeRoom() {
	if n.applied-n.core.View().Base.Index < api.SnapEvery {
		return
	}
	// It is above Base and committed: the core has its entry.
	last := n.core.Entries(n.applied, n.applied)[0]
	s := api.Snap{Mark: api.Mark{Index: last.Index, Term: last.Term}, Members: n.members, Data: n.store.Put()}
	firstError(
		func() api.Errno { return snap.Save(n.disk, s) },
		func() api.Errno { return n.log.Compact(n.applied) },
		func() api.Errno {
			b, _ := snap.Put(s)
			return n.core.Compact(n.applied, b)
		},
	)
}
