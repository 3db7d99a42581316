package node_test

import (
	"cmp"
	"math"
	"slices"
	"strconv"
	"testing"

	"tollgate/api"
	"tollgate/conf"
	"tollgate/disk"
	"tollgate/snap"
	"tollgate/wal"
)

// loaded is the snapshot of a pair's disk.
func (p *pair) loaded() api.Snap {
	p.t.Helper()
	s, e := snap.Load(p.disk)
	wantOK(p.t, e)
	return s
}

// storeOf is the configuration in a snapshot.
func storeOf(t *testing.T, s api.Snap) api.Config {
	t.Helper()
	store, e := conf.Load(s.Data)
	wantOK(t, e)
	return store.Config()
}

// Room is made just when SnapEvery entries are applied behind Base, and again when so many more are.
func TestRoomEvery(t *testing.T) {
	p := opened(t, 1, api.Members{Voters: []int{1}, Learners: []int{4}})
	p.leads()
	for i := 2; i <= 3*api.SnapEvery+1; i++ {
		o := p.submit(putPool("p" + strconv.Itoa(i%5)))
		want(t, "Log", len(o.Log), 1)
		base := i / api.SnapEvery * api.SnapEvery
		v := p.node.View()
		want(t, "Base", v.Base.Index, base)
		want(t, "Last", v.Last, i)
		if base == 0 {
			want(t, "names", p.disk.Names(), []string{"wal-1"})
			continue
		}
		want(t, "names", p.disk.Names(), []string{"snap-" + strconv.Itoa(base), "wal-" + strconv.Itoa(1+i/api.SnapEvery)})
		want(t, "mark", p.loaded().Mark, api.Mark{Index: base, Term: 1})
		want(t, "members", p.loaded().Members, p.first)
		want(t, "version", storeOf(t, p.loaded()).Version, base-1)
		l, e := wal.Open(p.disk.Fork())
		wantOK(t, e)
		want(t, "the log's Base", l.Base(), v.Base)
	}
}

// One entry less than SnapEvery, just so many, and more at one step: the snapshot is that of all that is applied, with its own term, and what is not applied stays.
func TestRoomAtOnce(t *testing.T) {
	for _, x := range []struct{ base, first, commit, made int }{
		{0, 8, 15, 0}, {0, 8, 16, 16}, {0, 14, 15, 0}, {0, 15, 16, 16}, {0, 15, 19, 19}, {0, 9, 22, 22},
		{7, 16, 22, 0}, {7, 16, 23, 23}, {7, 22, 23, 23}, {7, 22, 24, 24}, {7, 7, 24, 24},
	} {
		p := opened(t, 1, voters(1, 2))
		at := api.Mark{}
		if x.base > 0 {
			s := snapOf(x.base, 1, voters(1, 2))
			p.msg(install(t, 2, 1, 2, s))
			at = s.Mark
		}
		// Terms go from 1 to 2 at index 20.
		for at.Index < 26 {
			next := api.Mark{Index: at.Index + 1, Term: 1 + (at.Index+1)/20}
			o := p.msg(appends(2, 1, 2, at, 0, noop(next.Term, next.Index)))
			want(t, "Log", o.Log, []api.Entry{})
			at = next
		}
		last := api.Mark{Index: 26, Term: 2}
		p.msg(appends(2, 1, 2, last, x.first))
		want(t, "Base", p.node.View().Base.Index, x.base)
		o := p.msg(appends(2, 1, 2, last, x.commit))
		want(t, "Log", len(o.Log), x.commit-x.first)
		want(t, "Applied", p.node.Applied(), x.commit)
		want(t, "Base", p.node.View().Base.Index, max(x.base, x.made))
		if x.made > 0 {
			want(t, "mark", p.loaded().Mark, api.Mark{Index: x.made, Term: 1 + x.made/20})
			want(t, "Base", p.node.View().Base, p.loaded().Mark)
		}
		want(t, "Entries", len(p.node.Entries(0, math.MaxInt)), 26-max(x.base, x.made))
	}
}

// The members of a snapshot are those that are applied, not those that the core has already.
func TestRoomMembers(t *testing.T) {
	p := opened(t, 1, voters(1, 2, 3))
	at := api.Mark{}
	give := func(commit int, l ...api.Entry) {
		p.msg(appends(2, 1, 2, at, commit, l...))
		at = api.Mark{Index: l[len(l)-1].Index, Term: l[len(l)-1].Term}
	}
	give(0, turn(t, 1, 1, api.Add, 7), turn(t, 1, 2, api.Add, 7), turn(t, 1, 3, api.Demote, 3), api.Entry{Kind: api.Turn, Term: 1, Index: 4, Data: []byte("none")})
	give(0, rowOf(5, 1, 1, 1, 1, 1, 1)...)
	give(0, rowOf(11, 1, 1, 1, 1, 1)...)
	give(15, turn(t, 1, 16, api.Promote, 7), turn(t, 2, 17, api.Remove, 2))
	want(t, "names", p.disk.Names(), []string{"wal-1"})
	give(16, turn(t, 2, 18, api.Remove, 3))
	want(t, "members", p.loaded().Members, api.Members{Voters: []int{1, 2, 7}, Learners: []int{3}})
	want(t, "View", p.node.View().Members, voters(1, 7))
	want(t, "Base", p.node.View().Base, api.Mark{Index: 16, Term: 1})
	p.crash()
	p.first = voters(9)
	wantOK(t, p.open(0))
	want(t, "View", p.node.View().Members, voters(1, 7))
}

// roomMade is what a script on a disk of some room came to.
type roomMade struct {
	e       api.Errno // the first one that was told
	saved   bool
	files   []string
	base    int
	applied int
}

// fifteen is a script that makes room at its last step.
func fifteen(t *testing.T, room int) (*pair, roomMade) {
	t.Helper()
	p := newPair(t, disk.New(room), 1, voters(1))
	if e := p.open(0); e != api.OK {
		return p, roomMade{e: e}
	}
	var m roomMade
	for range api.Quiet {
		m.e = cmp.Or(m.e, p.tick(0).E)
	}
	for i := range api.SnapEvery - 1 {
		m.e = cmp.Or(m.e, p.submit(putPool("p"+strconv.Itoa(i%3))).E)
	}
	_, e := snap.Load(p.disk)
	m.saved, m.files, m.base, m.applied = e == api.OK, p.disk.Names(), p.node.View().Base.Index, p.node.Applied()
	return p, m
}

// P12.7: a disk that is full at each point: in keeping, in saving, in cutting the log. The last two are not told; at a later step, when there is room again, room is made.
func TestRoomOnFullDisk(t *testing.T) {
	seen := map[string]int{}
	var order []string
	for room := 0; seen["made"] < 30; room++ {
		p, m := fifteen(t, room)
		kind := "made"
		switch {
		case m.e == api.ErrFull:
			kind = "not kept"
			if m.applied == api.SnapEvery {
				t.Fatalf("room %d: applied %+v, though something was not kept", room, m)
			}
		case m.e != api.OK || m.applied != api.SnapEvery:
			t.Fatalf("room %d: %+v", room, m)
		case !m.saved:
			kind = "not saved"
			want(t, kind, m.files, []string{"wal-1"})
			want(t, kind, m.base, 0)
		case m.base == 0:
			kind = "not cut"
			want(t, kind, m.files, []string{"snap-16", "wal-1"})
		default:
			want(t, kind, m.files, []string{"snap-16", "wal-2"})
			want(t, kind, m.base, api.SnapEvery)
		}
		if seen[kind]++; seen[kind] == 1 {
			order = append(order, kind)
		}
		if kind != "not kept" {
			want(t, "Config", p.node.Config().Version, api.SnapEvery-1)
		}
	}
	if !slices.Equal(order, []string{"not kept", "not saved", "not cut", "made"}) || seen["not saved"] < 50 || seen["not cut"] != 22 {
		t.Errorf("with more and more room: %v, %v", order, seen)
	}
}

// What could not be made at one step is made at the next one, of whatever kind, that finds room; the snapshot is that of what is applied then.
func TestRoomLater(t *testing.T) {
	saved, e := snap.Put(snapOf(16, 1, voters(1)))
	wantOK(t, e)
	for _, left := range []int{0, 21, len(saved) - 1, len(saved), len(saved) + 21} {
		p := newPair(t, disk.New(5000), 1, voters(1))
		wantOK(t, p.open(0))
		p.leads()
		before := 0
		for range api.SnapEvery - 2 {
			before = p.disk.Used()
			p.submit(nothing())
		}
		// The next one takes as many bytes as the last one did.
		used := 2*p.disk.Used() - before
		for _, d := range []*disk.Disk{p.disk, p.model.disk} {
			wantOK(t, d.Write("filler", 0, make([]byte, 5000-used-left)))
		}
		o := p.submit(nothing())
		want(t, "it is done", []int{int(o.E), o.Index, len(o.Done)}, []int{0, 16, 1})
		want(t, "Base", p.node.View().Base, api.Mark{})
		want(t, "no room", p.tick(0), api.Out{})
		want(t, "Base", p.node.View().Base, api.Mark{})
		wantOK(t, p.disk.Cut("filler", 1))
		wantOK(t, p.model.disk.Cut("filler", 1))
		_, e := snap.Load(p.disk)
		want(t, "is it saved?", e == api.OK, left >= len(saved))
		want(t, "room again", p.tick(0), api.Out{})
		want(t, "Base", p.node.View().Base, api.Mark{Index: 16, Term: 1})
		want(t, "mark", p.loaded().Mark, api.Mark{Index: 16, Term: 1})
	}
}

// A disk with as many files as may be has no place for a spare one: nothing is told of that.
func TestRoomTooManyFiles(t *testing.T) {
	for files := api.MaxFiles - 3; files <= api.MaxFiles-1; files++ {
		p := newPair(t, disk.New(roomy), 1, voters(1))
		for i := range files {
			for _, d := range []*disk.Disk{p.disk, p.model.disk} {
				plantFile(t, d, "other"+strconv.Itoa(i), "")
			}
		}
		wantOK(t, p.open(0))
		p.leads()
		for range api.SnapEvery {
			wantOK(t, p.submit(putPool("p")).E)
		}
		base := 0
		if files == api.MaxFiles-3 {
			base = api.SnapEvery
		}
		want(t, "Base", p.node.View().Base.Index, base)
	}
}
