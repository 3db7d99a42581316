package node_test

import (
	"math"
	"testing"

	"tollgate/api"
	"tollgate/disk"
	"tollgate/node"
	"tollgate/snap"
	"tollgate/wal"
)

// wrongMembers are not right, each in another way.
func wrongMembers() []api.Members {
	return []api.Members{
		{}, {Voters: []int{}}, {Learners: []int{1}}, voters(0), voters(api.MaxNode + 1), voters(-1), voters(math.MinInt), voters(math.MaxInt),
		voters(1, 1), voters(2, 1), {Voters: []int{1}, Learners: []int{1}}, {Voters: []int{1}, Learners: []int{3, 2}}, {Voters: []int{1}, Learners: []int{0}},
	}
}

func wrongIds() []int { return []int{math.MinInt, -1, 0, api.MaxNode + 1, math.MaxInt} }

// P12.1: ErrNil ahead of ErrArg, and that ahead of what the disk says; the disk is not touched by either.
func TestOpenArguments(t *testing.T) {
	d := disk.New(roomy)
	plantFile(t, d, "wal-7", "no log")
	plantFile(t, d, "wal-3", "none either")
	plantFile(t, d, "wal.tmp", "left over")
	before := onDisk(d)
	for _, id := range wrongIds() {
		refused(t, "id, nil disk", api.ErrNil, nil, id, voters(1))
		refused(t, "id", api.ErrArg, d, id, voters(1))
		refused(t, "id", api.ErrArg, disk.New(0), id, voters(1))
		refused(t, "id", api.ErrArg, disk.New(roomy), id, voters(1))
	}
	for _, m := range wrongMembers() {
		refused(t, "members, nil disk", api.ErrNil, nil, 1, m)
		refused(t, "members", api.ErrArg, d, 1, m)
		refused(t, "members", api.ErrArg, disk.New(0), 1, m)
		refused(t, "members and id", api.ErrArg, d, 0, m)
		refused(t, "members", api.ErrArg, disk.New(roomy), 1, m)
	}
	refused(t, "nil disk", api.ErrNil, nil, 1, voters(1))
	want(t, "the disk", onDisk(d), before)
	refused(t, "no log", api.ErrForm, d, 1, voters(1))
}

// P12.1: every id from 1 to MaxNode, a member or not.
func TestOpenIds(t *testing.T) {
	for id := 1; id <= api.MaxNode; id++ {
		for _, m := range []api.Members{voters(id), voters(1, api.MaxNode), {Voters: []int{4}, Learners: []int{1, 5}}} {
			n := open(t, disk.New(roomy), id, m, 0)
			want(t, "View", n.View(), api.View{Members: m})
		}
	}
}

// P12.1: a disk without files: nothing is there, and an empty log is laid.
func TestOpenEmpty(t *testing.T) {
	d := disk.New(roomy)
	n := open(t, d, 2, voters(1, 2, 3), 0)
	want(t, "View", n.View(), api.View{Members: voters(1, 2, 3)})
	want(t, "Config", n.Config(), api.Config{})
	want(t, "Applied", n.Applied(), 0)
	want(t, "Entries", n.Entries(0, math.MaxInt), []api.Entry{})
	want(t, "names", d.Names(), []string{"wal-1"})
	want(t, "Serve", n.Serve([]byte(requests()[0]), 0), api.Reply{Status: 404})
	want(t, "Serve", n.Serve(nil, 0), api.Reply{Status: 400})
}

// P12.1: the error of (2) where there is no room even for an empty log: wal-1's 22 bytes.
func TestOpenNoRoom(t *testing.T) {
	for room := -1; room < 22; room++ {
		refused(t, "no room", api.ErrFull, disk.New(room), 1, voters(1))
	}
	open(t, disk.New(22), 1, voters(1), 0)
}

// P12.1: a log alone: its Hard and its entries are there, and nothing of them is applied.
func TestOpenLogAlone(t *testing.T) {
	d := disk.New(roomy)
	hard := api.Hard{Term: 4, Vote: 3}
	entries := []api.Entry{noop(2, 1), command(t, 2, 2, putPool("p")), turn(t, 4, 3, api.Add, 7), data(4, 4, "none")}
	plantLog(t, d, api.Mark{}, hard, entries...)
	n := open(t, d, 1, voters(1, 2, 3), 0)
	want(t, "View", n.View(), api.View{Hard: hard, Last: 4, Members: api.Members{Voters: []int{1, 2, 3}, Learners: []int{7}}})
	want(t, "Entries", n.Entries(1, 4), entries)
	want(t, "Entries", n.Entries(2, 3), entries[1:3])
	want(t, "Config", n.Config(), api.Config{})
	want(t, "Applied", n.Applied(), 0)
}

// P12.1: a snapshot alone has a term, and a new log's Hard has none: no core begins so. Ahead of that the errors of (2) and (3), where there is no room for a log, or for two.
func TestOpenSnapAlone(t *testing.T) {
	s := snapOf(5, 2, voters(1, 2), putPool("p"))
	b, e := snap.Put(s)
	wantOK(t, e)
	for _, x := range []struct {
		room int
		want api.Errno
	}{
		{len(b), api.ErrFull}, {len(b) + 21, api.ErrFull}, {len(b) + 22, api.ErrFull}, {len(b) + 43, api.ErrFull}, {len(b) + 44, api.ErrForm}, {roomy, api.ErrForm},
	} {
		d := disk.New(x.room)
		wantOK(t, snap.Save(d, s))
		refused(t, "a snapshot alone", x.want, d, 1, voters(1))
	}
}

// openedBoth is a disk with a snapshot of index 5, term 2, and a log.
func openedBoth(t *testing.T, base api.Mark, hard api.Hard, entries ...api.Entry) *disk.Disk {
	t.Helper()
	d := disk.New(roomy)
	plantLog(t, d, base, hard, entries...)
	wantOK(t, snap.Save(d, snapOf(5, 2, api.Members{Voters: []int{1, 2}, Learners: []int{6}}, putPool("p"), putRoute("a", "/", "p"))))
	return d
}

// P12.1: with both the log goes on behind the snapshot's mark, whatever it had ahead of it.
func TestOpenBoth(t *testing.T) {
	mark, hard := api.Mark{Index: 5, Term: 2}, api.Hard{Term: 6, Vote: 2}
	for _, x := range []struct {
		what    string
		base    api.Mark
		entries []api.Entry
		left    []api.Entry
	}{
		{"the same mark", mark, nil, nil},
		{"the same mark, entries", mark, rowOf(6, 2, 3, 6), rowOf(6, 2, 3, 6)},
		{"the log has the mark", api.Mark{}, rowOf(1, 1, 1, 1, 2, 2, 2, 4), rowOf(6, 2, 4)},
		{"the log has the mark last", api.Mark{}, rowOf(1, 1, 1, 1, 2, 2), nil},
		{"the log has the mark first", api.Mark{Index: 4, Term: 1}, rowOf(5, 2, 2, 2), rowOf(6, 2, 2)},
		{"a later term there", api.Mark{}, rowOf(1, 1, 1, 1, 2, 3, 3, 4), nil},
		{"an elder term there", api.Mark{}, rowOf(1, 1, 1, 1, 1, 1, 2, 4), nil},
		{"the log ends ahead of it", api.Mark{}, rowOf(1, 2, 2, 2, 2), nil},
		{"the log begins and ends ahead of it", api.Mark{Index: 4, Term: 2}, nil, nil},
		{"a log without anything", api.Mark{}, nil, nil},
		{"a Base of no term", api.Mark{Index: 3}, rowOf(4, 2, 2, 5), rowOf(6, 5)},
	} {
		d := openedBoth(t, x.base, hard, x.entries...)
		n := open(t, d, 1, voters(1, 8), 0)
		want(t, x.what, n.View(), api.View{Hard: hard, Base: mark, Commit: 5, Last: 5 + len(x.left), Members: api.Members{Voters: []int{1, 2}, Learners: []int{6}}})
		want(t, x.what, n.Entries(0, math.MaxInt), x.left)
		want(t, x.what, n.Applied(), 5)
		want(t, x.what, n.Config().Version, 2)
		want(t, x.what, n.Serve([]byte(requests()[0]), 0), api.Reply{Status: 200, Version: 2, Pool: "p", Addr: "p:1"})
		l, e := wal.Open(d)
		wantOK(t, e)
		want(t, x.what, l.Base(), mark)
		want(t, x.what, l.Entries(0, math.MaxInt), x.left)
		want(t, x.what, l.Hard(), hard)
		again := open(t, d, 1, voters(3), 0)
		want(t, x.what+", opened again", inside(again), inside(n))
	}
}

// P12.1 (3): what Compact and Reset make lasts at once; where there is no room for it, that is the error, and ahead of a store's that can't be loaded.
func TestOpenCatchesUpFull(t *testing.T) {
	for _, entries := range [][]api.Entry{rowOf(1, 1, 1, 2, 2, 2), rowOf(1, 1)} {
		for _, good := range []bool{true, false} {
			s := snapOf(5, 2, voters(1))
			if !good {
				s.Data = []byte("no store")
			}
			plant := func(room int) *disk.Disk {
				d := disk.New(room)
				plantLog(t, d, api.Mark{}, api.Hard{Term: 2}, entries...)
				wantOK(t, snap.Save(d, s))
				return d
			}
			used := plant(roomy).Used()
			for more := range 22 {
				d := plant(used + more)
				before := onDisk(d)
				refused(t, "no room to catch up", api.ErrFull, d, 1, voters(1))
				want(t, "the disk", onDisk(d), before)
			}
			d := plant(used + 22)
			if !good {
				refused(t, "no store", api.ErrForm, d, 1, voters(1))
				continue
			}
			open(t, d, 1, voters(1), 0)
			d.Crash(nil)
			want(t, "View", open(t, d, 1, voters(1), 0).View().Base, api.Mark{Index: 5, Term: 2})
		}
	}
}

// P12.1: a Base with a greater index than the mark, or with the same one and another term, with a snapshot and without.
func TestOpenWrongBase(t *testing.T) {
	for _, base := range []api.Mark{{Index: 6, Term: 2}, {Index: 7, Term: 3}, {Index: api.MaxNum, Term: 2}, {Index: 5, Term: 1}, {Index: 5, Term: 3}, {Index: 5}} {
		refused(t, shown(base), api.ErrForm, openedBoth(t, base, api.Hard{Term: 9}), 1, voters(1))
	}
	for _, base := range []api.Mark{{Index: 1, Term: 1}, {Index: 5, Term: 2}, {Index: 1}, {Term: 1}, {Index: api.MaxNum, Term: api.MaxNum}} {
		d := disk.New(roomy)
		plantLog(t, d, base, api.Hard{Term: api.MaxNum})
		refused(t, shown(base)+" without a snapshot", api.ErrForm, d, 1, voters(1))
	}
}

// P12.1 (2): files that are no log.
func TestOpenNoLog(t *testing.T) {
	for _, b := range []string{"", "x", "00000000000", "\x00\x00\x00\x00\x21\x44\xdf\x1c"} {
		d := disk.New(roomy)
		plantFile(t, d, "wal-2", b)
		refused(t, "no log", api.ErrForm, d, 1, voters(1))
		wantOK(t, snap.Save(d, snapOf(5, 2, voters(1))))
		refused(t, "no log, and a snapshot", api.ErrForm, d, 1, voters(1))
	}
}

// P12.1 (4): Data that conf.Load refuses, whatever its error is.
func TestOpenNoStore(t *testing.T) {
	good := stored(putPool("p"))
	for _, b := range [][]byte{nil, {}, good[:len(good)-1], append(good, 0), {0x80}, {0, 33}, {0, 0, 0, 1, 0, 1, 0, 0}} {
		d := disk.New(roomy)
		plantLog(t, d, api.Mark{Index: 5, Term: 2}, api.Hard{Term: 2})
		wantOK(t, snap.Save(d, api.Snap{Mark: api.Mark{Index: 5, Term: 2}, Members: voters(1), Data: b}))
		refused(t, "no store", api.ErrForm, d, 1, voters(1))
	}
}

// P12.1 (5): what no core begins with.
func TestOpenNoCore(t *testing.T) {
	for _, x := range []struct {
		hard    api.Hard
		entries []api.Entry
	}{
		{api.Hard{}, rowOf(1, 1)}, {api.Hard{Term: 3}, rowOf(1, 1, 4)}, {api.Hard{Term: 9}, rowOf(1, 2, 1)},
	} {
		d := disk.New(roomy)
		plantLog(t, d, api.Mark{}, x.hard, x.entries...)
		refused(t, shown(x), api.ErrForm, d, 1, voters(1))
	}
	refused(t, "a Hard below the snapshot", api.ErrForm, openedBoth(t, api.Mark{}, api.Hard{Term: 1}), 1, voters(1))
	refused(t, "entries below the snapshot", api.ErrForm, openedBoth(t, api.Mark{Index: 5, Term: 2}, api.Hard{Term: 3}, rowOf(6, 1)...), 1, voters(1))
}

// P12.1 (1): the newest whole snapshot counts; one that is none is as if it were not there.
func TestOpenNewestSnap(t *testing.T) {
	d := disk.New(roomy)
	plantLog(t, d, api.Mark{}, api.Hard{Term: 2}, rowOf(1, 1, 1, 2, 2, 2, 2, 2, 2, 2, 2, 2, 2, 2)...)
	twelve, e := snap.Put(snapOf(12, 2, voters(1, 3), putPool("p")))
	wantOK(t, e)
	plantFile(t, d, "snap-12", string(twelve))
	nine, e := snap.Put(snapOf(9, 2, voters(1)))
	wantOK(t, e)
	plantFile(t, d, "snap-9", string(nine))
	plantFile(t, d, "snap-13", string(twelve))
	plantFile(t, d, "snap-14", string(twelve[:len(twelve)-1]))
	n := open(t, d, 1, voters(1), 0)
	want(t, "View", n.View(), api.View{Hard: api.Hard{Term: 2}, Base: api.Mark{Index: 12, Term: 2}, Commit: 12, Last: 13, Members: voters(1, 3)})
	want(t, "Config", n.Config().Version, 1)

	d = disk.New(roomy)
	plantFile(t, d, "snap-13", string(twelve))
	want(t, "without one that is whole", open(t, d, 1, voters(1), 0).View(), api.View{Members: voters(1)})
}

// P12.1 (6): a snapshot of Version 0 leaves the plane as it is new.
func TestOpenVersions(t *testing.T) {
	for _, commands := range [][]api.Command{nil, {putPool("p")}, {putPool("p"), putRoute("a", "/", "p")}} {
		d := disk.New(roomy)
		plantLog(t, d, api.Mark{Index: 5, Term: 2}, api.Hard{Term: 2})
		wantOK(t, snap.Save(d, snapOf(5, 2, voters(1), commands...)))
		n := open(t, d, 1, voters(1), 0)
		want(t, "Config", n.Config().Version, len(commands))
		want(t, "Serve", n.Serve(nil, 0).Version, len(commands))
	}
}

// P12.1 (5), P6: the draw tells how many ticks a node waits until it asks.
func TestOpenDraws(t *testing.T) {
	for draw, wait := range map[int]int{0: 10, 1: 11, 9: 19, 10: 10, 27: 17, -1: 15, math.MaxInt: 17, math.MinInt: 18} {
		n := open(t, disk.New(roomy), 1, voters(1, 2), draw)
		ticks := 1
		for len(n.Tick(0).Msgs) == 0 {
			ticks++
		}
		want(t, shown(draw), ticks, wait)
	}
}

// P1: none of nil.
func TestNil(t *testing.T) {
	var n *node.Node
	only := api.Out{E: api.ErrNil}
	want(t, "Tick", n.Tick(0), only)
	want(t, "Take", n.Take(nil, 0), only)
	want(t, "Take", n.Take([]byte{1}, 0), only)
	want(t, "Take", n.Take(bytesOf(t, appends(2, 1, 1, api.Mark{}, 0)), 0), only)
	want(t, "Submit", n.Submit(api.Command{}), only)
	want(t, "Submit", n.Submit(putPool("p")), only)
	want(t, "Change", n.Change(api.Change{}), only)
	want(t, "Change", n.Change(api.Change{Do: api.Add, Node: 2}), only)
	want(t, "Read", n.Read(1), only)
	want(t, "Serve", n.Serve(nil, 0), api.Reply{})
	want(t, "Serve", n.Serve([]byte(requests()[0]), 0.5), api.Reply{})
	want(t, "View", n.View(), api.View{})
	want(t, "Config", n.Config(), api.Config{})
	want(t, "Applied", n.Applied(), 0)
	want(t, "Entries", n.Entries(math.MinInt, math.MaxInt), []api.Entry{})
}
