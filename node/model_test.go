package node_test

import (
	"math"
	"slices"
	"testing"

	"tollgate/api"
	"tollgate/conf"
	"tollgate/disk"
	"tollgate/member"
	"tollgate/node"
	"tollgate/plane"
	"tollgate/raft"
	"tollgate/snap"
	"tollgate/wal"
	"tollgate/wire"
)

// model is a node by the chapter's words, one behind the other, on a disk of its own.
type model struct {
	disk    *disk.Disk
	log     *wal.Log
	core    *raft.Core
	store   *conf.Store
	members api.Members
	gate    *plane.Plane
	applied int
}

func openModel(d *disk.Disk, id int, m api.Members, draw int) (*model, api.Errno) {
	x := &model{disk: d, members: m, store: conf.New(), gate: plane.New()}
	begin := api.Begin{Id: id, Members: m, Draw: draw}
	s, gone := snap.Load(d)
	if gone == api.OK {
		x.members, begin.Members, begin.Base = s.Members, s.Members, s.Mark
		begin.Snap, _ = snap.Put(s)
	}
	var e api.Errno
	if x.log, e = wal.Open(d); e != api.OK {
		return nil, e
	}
	if x.log.Base().Index < begin.Base.Index {
		if term, has := x.log.Term(begin.Base.Index); has && term == begin.Base.Term {
			e = x.log.Compact(begin.Base.Index)
		} else {
			e = x.log.Reset(begin.Base)
		}
		if e != api.OK {
			return nil, e
		}
	}
	base := x.log.Base()
	if base.Index > begin.Base.Index || base.Index == begin.Base.Index && base.Term != begin.Base.Term {
		return nil, api.ErrForm
	}
	if gone == api.OK {
		if x.store, e = conf.Load(s.Data); e != api.OK {
			return nil, api.ErrForm
		}
	}
	begin.Hard = x.log.Hard()
	begin.Entries = x.log.Entries(1, x.log.Last())
	if x.core, e = raft.New(begin); e != api.OK {
		return nil, api.ErrForm
	}
	x.applied = begin.Base.Index
	if c := x.store.Config(); c.Version > 0 {
		x.gate.Apply(c)
	}
	return x, api.OK
}

// step does one on a fork; proposes: is it a Submit or a Change?
func (x *model) step(proposes bool, do func(c *raft.Core) api.Output) api.Out {
	core := x.core.Fork()
	o := do(core)
	if o.E != api.OK {
		return api.Out{E: o.E}
	}
	var s api.Snap
	var store *conf.Store
	if len(o.Snap) > 0 {
		s, _ = snap.Get(o.Snap)
		var e api.Errno
		if store, e = conf.Load(s.Data); e != api.OK {
			return api.Out{E: api.ErrForm}
		}
	}
	if e := x.keep(core, o, s); e != api.OK {
		return api.Out{E: e}
	}
	x.core = core
	if store != nil {
		x.store, x.members, x.applied = store, s.Members, s.Mark.Index
	}
	out := api.Out{Reads: o.Reads}
	x.apply(&out)
	x.makeRoom()
	if proposes {
		out.Index, out.Term = o.Index, x.core.View().Hard.Term
	}
	for _, m := range o.Msgs {
		b, _ := wire.PutMsg(m)
		out.Msgs = append(out.Msgs, api.Packet{From: m.From, To: m.To, Bytes: b})
	}
	return out
}

func (x *model) keep(core *raft.Core, o api.Output, s api.Snap) api.Errno {
	if e := x.log.SetHard(o.Hard); e != api.OK {
		return e
	}
	if len(o.Snap) == 0 {
		if e := x.log.Append(o.Entries...); e != api.OK {
			return e
		}
		return x.log.Sync()
	}
	if e := x.log.Sync(); e != api.OK {
		return e
	}
	if e := snap.Save(x.disk, s); e != api.OK {
		return e
	}
	if e := x.log.Reset(s.Mark); e != api.OK {
		return e
	}
	if e := x.log.Append(core.Entries(math.MinInt, math.MaxInt)...); e != api.OK {
		return e
	}
	return x.log.Sync()
}

func (x *model) apply(out *api.Out) {
	for x.applied < x.core.View().Commit {
		x.applied++
		l := x.core.Entries(x.applied, x.applied)
		entry := l[0]
		out.Log = append(out.Log, entry)
		if entry.Kind == api.Data {
			r := api.Result{E: api.ErrForm, Version: x.store.Config().Version}
			if c, e := conf.GetCommand(entry.Data); e == api.OK {
				r = x.store.Do(c)
			}
			out.Done = append(out.Done, api.Done{Index: entry.Index, Term: entry.Term, Result: r})
		}
		if entry.Kind == api.Turn {
			c, e := member.GetChange(entry.Data)
			after, refused := member.Apply(x.members, c)
			if e == api.OK && refused == api.OK {
				x.members = after
			}
		}
	}
	if c := x.store.Config(); c.Version > x.gate.Version() {
		x.gate.Apply(c)
	}
}

func (x *model) makeRoom() {
	if x.applied < x.core.View().Base.Index+api.SnapEvery {
		return
	}
	term := x.core.Entries(x.applied, x.applied)[0].Term
	s := api.Snap{Mark: api.Mark{Index: x.applied, Term: term}, Members: x.members, Data: x.store.Put()}
	if snap.Save(x.disk, s) != api.OK || x.log.Compact(x.applied) != api.OK {
		return
	}
	b, _ := snap.Put(s)
	x.core.Compact(x.applied, b)
}

func (x *model) inside() string {
	return shown(x.core.View()) + shown(x.core.Entries(math.MinInt, math.MaxInt)) + shown(x.store.Config()) + shown(x.applied)
}

// pair is a node and its model, which are told the same.
type pair struct {
	t     *testing.T
	id    int
	first api.Members
	disk  *disk.Disk
	node  *node.Node
	model *model
}

// newPair is one that is not open yet.
func newPair(t *testing.T, d *disk.Disk, id int, m api.Members) *pair {
	return &pair{t: t, id: id, first: m, disk: d, model: &model{disk: d.Fork()}}
}

func clonedMembers(m api.Members) api.Members {
	return api.Members{Voters: slices.Clone(m.Voters), Learners: slices.Clone(m.Learners)}
}

// open opens both; with an error both are down. What was handed in is spoiled behind it (P3).
func (p *pair) open(draw int) api.Errno {
	p.t.Helper()
	handed := clonedMembers(p.first)
	n, e := node.Open(p.disk, p.id, handed, draw)
	want(p.t, "what was handed in", handed, p.first)
	spoilMembers(handed)
	d := p.model.disk
	m, expected := openModel(d, p.id, clonedMembers(p.first), draw)
	if e != expected || (n == nil) != (e != api.OK) {
		p.t.Fatalf("Open: error %d, node %t; want error %d", e, n != nil, expected)
	}
	p.node, p.model = n, m
	if m == nil {
		p.model = &model{disk: d}
	}
	p.alike("Open")
	return e
}

// crash: both disks crash alike, and nobody is up.
func (p *pair) crash(keep ...int) {
	p.disk.Crash(keep)
	p.model.disk.Crash(keep)
	p.node = nil
}

// alike: node and model tell the same, and have the same on their disks; what the node answers is spoiled.
func (p *pair) alike(what string) {
	p.t.Helper()
	if got, want := onDisk(p.disk), onDisk(p.model.disk); got != want {
		p.t.Fatalf("behind %s the disk has\n%s\nwant\n%s", what, got, want)
	}
	if p.node == nil {
		return
	}
	got := inside(p.node)
	if want := p.model.inside(); got != want {
		p.t.Fatalf("behind %s:\n%s\nwant\n%s", what, got, want)
	}
	if got, want := served(p.node.Serve), served(p.model.gate.Serve); got != want {
		p.t.Fatalf("behind %s it serves\n%s\nwant\n%s", what, got, want)
	}
	spoilEntries(p.node.Entries(math.MinInt, math.MaxInt))
	spoilConfig(p.node.Config())
	spoilMembers(p.node.View().Members)
	if again := inside(p.node); again != got {
		p.t.Fatalf("behind %s: what it answers is kept:\n%s\nand was\n%s", what, again, got)
	}
}

// told: a step told what the model's told. Its lists are spoiled behind it; a copy is answered.
func (p *pair) told(what string, got, want api.Out) api.Out {
	p.t.Helper()
	if shown(got) != shown(want) {
		p.t.Fatalf("%s:\n%s\nwant\n%s", what, shown(got), shown(want))
	}
	if (got.E != api.OK) && shown(got) != shown(api.Out{E: got.E}) {
		p.t.Fatalf("%s: with an error\n%s", what, shown(got))
	}
	spoilOut(got)
	p.alike(what)
	return want
}

func (p *pair) tick(draw int) api.Out {
	p.t.Helper()
	return p.told("Tick", p.node.Tick(draw), p.model.step(false, func(c *raft.Core) api.Output { return c.Tick(draw) }))
}

func (p *pair) take(b []byte, draw int) api.Out {
	p.t.Helper()
	handed := spare(b)
	got := p.node.Take(handed, draw)
	if string(handed[:len(b)+len(behind)]) != string(b)+behind {
		p.t.Fatalf("what was handed in has changed: %x", handed[:len(b)+len(behind)])
	}
	spoil(handed)
	m, e := wire.GetMsg(b)
	return p.told("Take of "+shown(m), got, p.model.step(false, func(c *raft.Core) api.Output {
		if e != api.OK {
			return api.Output{E: e}
		}
		return c.Take(m, draw)
	}))
}

func (p *pair) msg(m api.Msg) api.Out {
	p.t.Helper()
	return p.take(bytesOf(p.t, m), 0)
}

func (p *pair) submit(c api.Command) api.Out {
	p.t.Helper()
	handed := c
	handed.Targets = append(slices.Clone(c.Targets), api.Target{Addr: "behind"})[:len(c.Targets)]
	got := p.node.Submit(handed)
	if shown(handed) != shown(c) || handed.Targets[:len(c.Targets)+1][len(c.Targets)].Addr != "behind" {
		p.t.Fatalf("what was handed in has changed: %s", shown(handed))
	}
	clear(handed.Targets)
	return p.told("Submit of "+shown(c), got, p.model.step(true, func(core *raft.Core) api.Output {
		b, e := conf.PutCommand(c)
		if e != api.OK {
			return api.Output{E: e}
		}
		return core.Propose(b)
	}))
}

func (p *pair) change(x api.Change) api.Out {
	p.t.Helper()
	return p.told("Change", p.node.Change(x), p.model.step(true, func(c *raft.Core) api.Output { return c.Change(x) }))
}

func (p *pair) read(tag int) api.Out {
	p.t.Helper()
	return p.told("Read", p.node.Read(tag), p.model.step(false, func(c *raft.Core) api.Output { return c.Read(tag) }))
}
