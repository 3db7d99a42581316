package node

import (
	"slices"

	"tollgate/api"
	"tollgate/disk"
	"tollgate/member"
	"tollgate/plane"
	"tollgate/raft"
	"tollgate/snap"
	"tollgate/wal"
)

// Open is the node of a disk.
func Open(d *disk.Disk, id int, m api.Members, draw int) (*Node, api.Errno) {
	if d == nil {
		return nil, api.ErrNil
	}
	if id < 1 || id > api.MaxNode || !member.Right(m) {
		return nil, api.ErrArg
	}
	s := newest(d, m)
	l, e := openLog(d, s.Mark)
	if e != api.OK {
		return nil, e
	}
	made, e := stateOf(s)
	if e != api.OK {
		return nil, api.ErrForm
	}
	core, e := openCore(id, s, l, draw)
	if e != api.OK {
		return nil, api.ErrForm
	}
	n := &Node{disk: d, log: l, core: core, plane: plane.New(), state: made}
	n.show()
	return n, api.OK
}

// newest is the disk's newest snapshot. Where there is none the mark is that of nothing, which no snapshot has.
func newest(d *disk.Disk, m api.Members) api.Snap {
	s, e := snap.Load(d)
	if e != api.OK {
		return api.Snap{Members: api.Members{Voters: slices.Clone(m.Voters), Learners: slices.Clone(m.Learners)}}
	}
	return s
}

// openLog is the disk's log, which begins at the mark.
func openLog(d *disk.Disk, mark api.Mark) (*wal.Log, api.Errno) {
	l, e := wal.Open(d)
	if e != api.OK {
		return nil, e
	}
	if l.Base().Index < mark.Index {
		if e := catchUp(l, mark); e != api.OK {
			return nil, e
		}
	}
	if l.Base() != mark {
		return nil, api.ErrForm
	}
	return l, api.OK
}

// catchUp does what a crash left undone between a snapshot's saving and the log's cutting. Entries behind the mark stay only if the log has the mark: else they belong to another log.
func catchUp(l *wal.Log, mark api.Mark) api.Errno {
	if term, there := l.Term(mark.Index); there && term == mark.Term {
		return l.Compact(mark.Index)
	}
	return l.Reset(mark)
}

func openCore(id int, s api.Snap, l *wal.Log, draw int) (*raft.Core, api.Errno) {
	// Of the mark of nothing there are no bytes: that is what a core without a snapshot begins with.
	b, _ := snap.Put(s)
	return raft.New(api.Begin{
		Id:      id,
		Members: s.Members,
		Hard:    l.Hard(),
		Base:    s.Mark,
		Snap:    b,
		Entries: l.Entries(s.Mark.Index, l.Last()),
		Draw:    draw,
	})
}
