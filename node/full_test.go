package node_test

import (
	"math"
	"slices"
	"strconv"
	"testing"

	"tollgate/api"
	"tollgate/disk"
	"tollgate/snap"
	"tollgate/wal"
)

// planted is a pair of node 1 with a log of three entries, on a disk that has so many bytes left.
func planted(t *testing.T, left int) *pair {
	t.Helper()
	plant := func(room int) *disk.Disk {
		d := disk.New(room)
		plantLog(t, d, api.Mark{}, api.Hard{Term: 1, Vote: 2}, rowOf(1, 1, 1, 1)...)
		return d
	}
	p := newPair(t, plant(plant(roomy).Used()+left), 1, voters(1, 2, 3))
	wantOK(t, p.open(0))
	return p
}

// behindCrash is the Hard and the last index that a disk's log tells behind a crash that keeps so many units of each file.
func behindCrash(t *testing.T, d *disk.Disk, units int) (api.Hard, int) {
	t.Helper()
	d = d.Fork()
	d.Crash([]int{units, units, units})
	l, e := wal.Open(d)
	wantOK(t, e)
	return l.Hard(), l.Last()
}

const (
	hardSize = 11 // bytes of a Hard's record, of small numbers
	noopSize = 13 // of a Noop's
	markSize = 11 // of a mark's
)

// P12.7, P12.2: entries that come with a new term: there may be no room for the term, or none for the entries. Nothing is told; what was kept of it is there, and was not synced.
func TestFullAppend(t *testing.T) {
	m := appends(2, 1, 4, api.Mark{Index: 2, Term: 1}, 3, rowOf(3, 4, 4)...)
	was, is := api.Hard{Term: 1, Vote: 2}, api.Hard{Term: 4}
	for left := range hardSize + 2*noopSize + 3 {
		p := planted(t, left)
		before, disk := inside(p.node), onDisk(p.disk)
		o := p.msg(m)
		switch {
		case left < hardSize:
			want(t, "no room for the term", o, api.Out{E: api.ErrFull})
			want(t, "the disk", onDisk(p.disk), disk)
		case left < hardSize+2*noopSize:
			want(t, "no room for the entries", o, api.Out{E: api.ErrFull})
			for units, h := range map[int]api.Hard{0: was, hardSize - 1: was, hardSize: is, math.MaxInt: is} {
				hard, last := behindCrash(t, p.disk, units)
				want(t, "behind a crash", hard, h)
				want(t, "behind a crash", last, 3)
			}
		default:
			want(t, "there is room", []int{int(o.E), len(o.Msgs), len(o.Log)}, []int{0, 1, 3})
			hard, last := behindCrash(t, p.disk, 0)
			want(t, "behind a crash", hard, is)
			want(t, "behind a crash", last, 4)
			continue
		}
		want(t, "the node", inside(p.node), before)
		want(t, "again", p.msg(m), api.Out{E: api.ErrFull})
	}
}

// P12.7: a vote that can't be kept is not given; behind that the node may vote for another one, once there is room.
func TestFullVote(t *testing.T) {
	for left := range hardSize + 2 {
		p := planted(t, left)
		ask := api.Msg{Kind: api.AskVote, From: 2, To: 1, Term: 5, Index: 9, LogTerm: 1}
		o := p.msg(ask)
		if left >= hardSize {
			want(t, "there is room", read(t, o.Msgs)[0].Ok, true)
			continue
		}
		want(t, "no room", o, api.Out{E: api.ErrFull})
		want(t, "Hard", p.node.View().Hard, api.Hard{Term: 1, Vote: 2})
		hard, _ := behindCrash(t, p.disk, math.MaxInt)
		want(t, "behind a crash", hard, api.Hard{Term: 1, Vote: 2})
	}
}

// P12.7: a leader's own entries: neither told nor sent, and the index is free for the next one.
func TestFullPropose(t *testing.T) {
	d := disk.New(22 + hardSize + noopSize)
	p := newPair(t, d, 1, voters(1))
	wantOK(t, p.open(0))
	p.leads()
	before := inside(p.node) + onDisk(p.disk)
	want(t, "Submit", p.submit(putPool("p")), api.Out{E: api.ErrFull})
	want(t, "Change", p.change(api.Change{Do: api.Add, Node: 2}), api.Out{E: api.ErrFull})
	want(t, "behind them", inside(p.node)+onDisk(p.disk), before)
	want(t, "Read keeps nothing", p.read(1), api.Out{Reads: []api.Read{{Tag: 1, Index: 1}}})
	want(t, "nor does Tick", p.tick(0), api.Out{})
}

// P12.7: who can't keep its own vote, or its Noop, leads not; its time runs out again.
func TestFullLead(t *testing.T) {
	for left := range hardSize + noopSize + 2 {
		p := newPair(t, disk.New(22+left), 1, voters(1))
		wantOK(t, p.open(0))
		for range api.Quiet - 1 {
			wantOK(t, p.tick(0).E)
		}
		o := p.tick(0)
		if left >= hardSize+noopSize {
			want(t, "there is room", o, api.Out{Log: rowOf(1, 1)})
			continue
		}
		want(t, "no room", o, api.Out{E: api.ErrFull})
		want(t, "no room", p.tick(0), api.Out{E: api.ErrFull})
		want(t, "View", p.node.View(), api.View{Members: voters(1)})
	}
}

// P12.7, P12.2: a snapshot that comes with a new term: no room for the term, for the snapshot, for the new log. What was kept by then stays, and is sure; the core stays as it was.
func TestFullInstall(t *testing.T) {
	s := snapOf(5, 3, voters(1, 2), putPool("p"), putRoute("a", "/", "p"))
	b, e := snap.Put(s)
	wantOK(t, e)
	was, is := api.Hard{Term: 1, Vote: 2}, api.Hard{Term: 4}
	seen := make([]int, 4)
	for left := range hardSize + len(b) + hardSize + markSize + 3 {
		p := planted(t, left)
		before := inside(p.node)
		o := p.msg(install(t, 2, 1, 4, s))
		hard, last := behindCrash(t, p.disk, 0)
		saved, e := snap.Load(p.disk)
		switch {
		case left < hardSize:
			seen[0]++
			want(t, "no room for the term", hard, was)
		case left < hardSize+len(b):
			seen[1]++
			want(t, "no room for the snapshot", hard, is)
			want(t, "no room for the snapshot", e, api.ErrGone)
			want(t, "no room for the snapshot", p.disk.Names(), []string{"wal-1"})
		case left < hardSize+len(b)+hardSize+markSize:
			seen[2]++
			want(t, "no room for the log", hard, is)
			want(t, "no room for the log", saved, s)
			want(t, "no room for the log", p.disk.Names(), []string{"snap-5", "wal-1"})
		default:
			seen[3]++
			want(t, "there is room", []int{int(o.E), len(o.Msgs), p.node.Applied(), p.node.Config().Version}, []int{0, 1, 5, 2})
			want(t, "there is room", last, 5)
			continue
		}
		want(t, "it is told", o, api.Out{E: api.ErrFull})
		want(t, "the log", last, 3)
		want(t, "the node", inside(p.node), before)
		want(t, "Serve", p.node.Serve([]byte(requests()[0]), 0), api.Reply{Status: 404})
	}
	if slices.Min(seen) == 0 {
		t.Errorf("it was full at these points: %v", seen)
	}
}

// P12.2: where snapshot and log fit not both, the step is told again with the same error, and goes through once there is room.
func TestFullThenRoom(t *testing.T) {
	s := snapOf(5, 3, voters(1, 2), putPool("p"))
	b, e := snap.Put(s)
	wantOK(t, e)
	for _, left := range []int{0, hardSize, hardSize + len(b)} {
		p := planted(t, left+1000)
		fill := func(size int) {
			for _, d := range []*disk.Disk{p.disk, p.model.disk} {
				if slices.Contains(d.Names(), "filler") {
					wantOK(t, d.Cut("filler", size))
				} else {
					wantOK(t, d.Write("filler", 0, make([]byte, size)))
				}
			}
		}
		fill(1000)
		want(t, "full", p.msg(install(t, 2, 1, 4, s)), api.Out{E: api.ErrFull})
		want(t, "still full", p.msg(install(t, 2, 1, 4, s)), api.Out{E: api.ErrFull})
		fill(0)
		o := p.msg(install(t, 2, 1, 4, s))
		want(t, "room", read(t, o.Msgs), []api.Msg{{Kind: api.Say, From: 1, To: 2, Term: 4, Index: 5, Ok: true}})
		p.crash()
		wantOK(t, p.open(0))
		want(t, "opened again", p.node.View(), api.View{Hard: api.Hard{Term: 4}, Base: s.Mark, Commit: 5, Last: 5, Members: voters(1, 2)})
	}
}

// P12.2: other errors of keeping are told as they are: too many files, or a log that was taken away.
func TestKeepOtherErrors(t *testing.T) {
	p := planted(t, roomy)
	for i := range api.MaxFiles - 2 {
		for _, d := range []*disk.Disk{p.disk, p.model.disk} {
			plantFile(t, d, "other"+strconv.Itoa(i), "")
		}
	}
	s := snapOf(5, 3, voters(1, 2), putPool("p"))
	before := inside(p.node)
	want(t, "no file for the log", p.msg(install(t, 2, 1, 4, s)), api.Out{E: api.ErrLimit})
	want(t, "it is saved", p.loaded(), s)
	want(t, "the node", inside(p.node), before)

	p = planted(t, roomy)
	for _, d := range []*disk.Disk{p.disk, p.model.disk} {
		wantOK(t, d.Remove("wal-1"))
	}
	before = inside(p.node)
	for range 2 * api.Quiet {
		want(t, "no log to sync", p.tick(0), api.Out{E: api.ErrGone})
	}
	want(t, "the node", inside(p.node), before)
}
