package raft_test

import (
	"bytes"
	"math"
	"testing"

	"tollgate/api"
	"tollgate/raft"
)

// P1: a nil core.
func TestNil(t *testing.T) {
	var c *raft.Core
	only := api.Output{E: api.ErrNil}
	want(t, "Tick", c.Tick(-1), only)
	want(t, "Take", c.Take(api.Msg{Kind: api.Append, From: 2, To: 1}, 0), only)
	want(t, "Take of nothing", c.Take(api.Msg{}, 0), only)
	want(t, "Propose", c.Propose(make([]byte, api.MaxData+1)), only)
	want(t, "Change", c.Change(api.Change{}), only)
	want(t, "Read", c.Read(0), only)
	want(t, "Compact", c.Compact(0, nil), api.ErrNil)
	want(t, "View", c.View(), api.View{})
	want(t, "Entries", c.Entries(0, 9), []api.Entry{})
	if c.Fork() != nil {
		t.Error("a nil core's Fork is one")
	}
}

// P11.5: at Base's index, at Commit and above, and between them.
func TestCompact(t *testing.T) {
	for index := -1; index <= 9; index++ {
		c := sample(t)
		before := c.View()
		log := all(c)
		term := 1
		if index > 4 {
			term = 3
		}
		got := c.Compact(index, snapOf(t, max(index, 1), term, three))
		if index < 3 || index > 4 {
			want(t, "Compact", got, api.ErrArg)
			want(t, "Compact", c.View(), before)
			continue
		}
		want(t, "Compact", got, api.OK)
		before.Base = api.Mark{Index: index, Term: 1}
		want(t, "Compact", c.View(), before)
		want(t, "Compact", all(c), log[index-2:])
	}
	for _, index := range []int{math.MinInt, math.MaxInt, api.MaxNum} {
		c := sample(t)
		want(t, "Compact", c.Compact(index, snapOf(t, 4, 1, three)), api.ErrArg)
	}
}

// P11.5: bytes that are no snapshot's, or one's of another place or of other members.
func TestCompactWrong(t *testing.T) {
	c := sample(t)
	before := probed(c, 1)
	good := snapOf(t, 4, 1, three)
	for what, b := range map[string][]byte{
		"nil":            nil,
		"empty":          {},
		"cut":            good[:len(good)-1],
		"longer":         append(bytes.Clone(good), 0),
		"index below":    snapOf(t, 3, 1, three),
		"index above":    snapOf(t, 5, 1, three),
		"another term":   snapOf(t, 4, 2, three),
		"other voters":   snapOf(t, 4, 1, two),
		"other learners": snapOf(t, 4, 1, api.Members{Voters: []int{1, 2, 3}, Learners: []int{4}}),
	} {
		want(t, what, c.Compact(4, b), api.ErrArg)
	}
	if probed(c, 1) != before {
		t.Error("refused, and yet something has changed")
	}
	want(t, "the good one", c.Compact(4, good), api.OK)
	want(t, "once more", c.Compact(4, good), api.ErrArg)
}

// P11.5: the members are those that the log makes up to the index; later Turns count behind it.
func TestCompactMembers(t *testing.T) {
	c := leader(t, begin(voters(1), api.Hard{}))
	c.Change(api.Change{Do: api.Add, Node: 2})
	c.Change(api.Change{Do: api.Add, Node: 3})
	whole := api.Members{Voters: []int{1}, Learners: []int{2, 3}}
	part := api.Members{Voters: []int{1}, Learners: []int{2}}
	want(t, "those of now", c.Compact(2, snapOf(t, 2, 1, whole)), api.ErrArg)
	want(t, "those of the beginning", c.Compact(2, snapOf(t, 2, 1, voters(1))), api.ErrArg)
	b := snapOf(t, 2, 1, part)
	want(t, "those up to it", c.Compact(2, b), api.OK)
	spoilBytes(b)
	want(t, "the members", c.View().Members, whole)
	want(t, "the snapshot that is sent", no(c, 2, 1, 0).Msgs[0].Data, snapOf(t, 2, 1, part))
	want(t, "a second time", c.Compact(3, snapOf(t, 3, 1, whole)), api.OK)
	want(t, "the members", c.View(), api.View{Role: api.Leader, Leader: 1, Hard: first, Base: api.Mark{Index: 3, Term: 1}, Last: 3, Commit: 3, Members: whole})
}

// P11.5: neither a clock nor who leads is touched.
func TestCompactChangesNothingElse(t *testing.T) {
	c := proposed(t, three, 2)
	says(c, 2, 2, 0)
	c.Read(4)
	c.Tick(0)
	c.Tick(0)
	want(t, "Compact", c.Compact(2, snapOf(t, 2, 1, three)), api.OK)
	want(t, "a read passes", says(c.Fork(), 3, 2, 1).Reads, []api.Read{{Tag: 4, Index: 2}})
	want(t, "a beat", len(c.Tick(0).Msgs), 2)
	f := core(t, begin(voters(1, 2), api.Hard{Term: 1}, 1))
	f.Take(api.Msg{Kind: api.Append, From: 2, To: 1, Term: 1, Index: 1, LogTerm: 1, Commit: 1}, 0)
	for range api.Quiet - 1 {
		f.Tick(0)
	}
	want(t, "Compact", f.Compact(1, snapOf(t, 1, 1, two)), api.OK)
	want(t, "it asks", f.Tick(0).Msgs, []api.Msg{{Kind: api.AskPre, From: 1, To: 2, Term: 2, Index: 1, LogTerm: 1}})
}

// P11.5: Entries from anywhere to anywhere.
func TestEntries(t *testing.T) {
	c := sample(t)
	log := all(c)
	want(t, "all", len(log), 6)
	places := []int{math.MinInt, -1, 0, 1, 2, 3, 4, 7, 8, 9, 10, api.MaxNum, math.MaxInt}
	for _, from := range places {
		for _, to := range places {
			var l []api.Entry
			for _, e := range log {
				if e.Index >= from && e.Index <= to {
					l = append(l, e)
				}
			}
			want(t, "Entries", c.Entries(from, to), l)
		}
	}
	want(t, "of an empty log", core(t, begin(three, api.Hard{})).Entries(0, 9), []api.Entry{})
}

// P4, P11.5: a fork is alike, and both go on apart.
func TestFork(t *testing.T) {
	for name, c := range roles(t) {
		f := c.Fork()
		before := probed(c, 1)
		if f == c || probed(f, 1) != before {
			t.Errorf("%s: its Fork is another one", name)
		}
		f.Take(api.Msg{Kind: api.Append, From: 2, To: 1, Term: 9, Index: 1, LogTerm: 2, Entries: rowOf(2, 3, 9), Commit: 2}, 0)
		f.Compact(2, snapOf(t, 2, 3, three))
		if probed(c, 1) != before {
			t.Errorf("%s: what becomes of its Fork changes it", name)
		}
		f = c.Fork()
		c.Take(api.Msg{Kind: api.Append, From: 2, To: 1, Term: 9, Index: 1, LogTerm: 2, Entries: rowOf(2, 3, 9), Commit: 2}, 0)
		c.Compact(2, snapOf(t, 2, 3, three))
		if probed(f, 1) != before {
			t.Errorf("%s: what becomes of it changes its Fork", name)
		}
	}
}

// P4: of a leader all that it knows of others, its reads and its log.
func TestForkOfLeader(t *testing.T) {
	made := func() *raft.Core {
		c := proposed(t, five, 2)
		says(c, 2, 2, 0)
		says(c, 3, 1, 0)
		c.Read(1)
		says(c, 2, 2, 1)
		return c
	}
	drive := func(c *raft.Core) {
		c.Read(2)
		c.Propose([]byte("more"))
		says(c, 3, 4, 2)
		says(c, 4, 4, 2)
		no(c, 5, 1, 1)
		c.Change(api.Change{Do: api.Remove, Node: 2})
		c.Tick(0)
	}
	c := made()
	before := probed(c, 1)
	f := c.Fork()
	drive(f)
	if probed(c, 1) != before {
		t.Error("what becomes of a leader's Fork changes it")
	}
	f = c.Fork()
	drive(c)
	if probed(f, 1) != before {
		t.Error("what becomes of a leader changes its Fork")
	}
	drive(f)
	if probed(c, 1) != probed(f, 1) {
		t.Error("both are driven alike, and are not alike")
	}
}

// P4: entries of the one are none of the other one, however many there are already.
func TestForkOfLog(t *testing.T) {
	for commands := range 12 {
		a := proposed(t, three, commands)
		b := a.Fork()
		a.Propose([]byte("a"))
		b.Propose([]byte("b"))
		at := commands + 2
		want(t, "the logs", [][]api.Entry{a.Entries(at, at), b.Entries(at, at)}, [][]api.Entry{
			{{Kind: api.Data, Term: 1, Index: at, Data: []byte("a")}}, {{Kind: api.Data, Term: 1, Index: at, Data: []byte("b")}},
		})
		b.Take(api.Msg{Kind: api.Append, From: 2, To: 1, Term: 2, Entries: rowOf(1, 2)}, 0)
		want(t, "the first one", a.Entries(1, 1), []api.Entry{noop(1, 1)})
	}
}

// P4: voices of the one are none of the other one, however many there are already.
func TestForkOfAsker(t *testing.T) {
	nine := voters(1, 2, 3, 4, 5, 6, 7, 8, 9)
	for said := range 4 {
		a := asker(t, begin(nine, api.Hard{}))
		for n := range said {
			a.Take(pre(2+n, 1), 0)
		}
		b := a.Fork()
		for n := range 4 - said {
			want(t, "voices of both", []api.Role{a.View().Role, b.View().Role}, []api.Role{api.Asker, api.Asker})
			a.Take(pre(9-n, 1), 0)
			b.Take(pre(8-n, 1), 0)
		}
		want(t, "enough voices of both", []api.Role{a.View().Role, b.View().Role}, []api.Role{api.Candidate, api.Candidate})
	}
}

// P5: at the greatest numbers that a core may begin with it goes on counting.
func TestGreatNumbers(t *testing.T) {
	m := api.Members{Voters: []int{1}, Learners: []int{2}}
	s := based(t, m, api.Hard{Term: api.MaxNum}, api.Mark{Index: api.MaxNum - 1, Term: api.MaxNum}, api.MaxNum)
	c := leader(t, s)
	want(t, "it leads", c.View(), api.View{Role: api.Leader, Leader: 1, Hard: api.Hard{Term: api.MaxNum + 1, Vote: 1}, Base: s.Base, Last: api.MaxNum + 1, Commit: api.MaxNum + 1, Members: m})
	want(t, "Propose", c.Propose(nil).Index, api.MaxNum+2)
	want(t, "an elder term", c.Take(api.Msg{Kind: api.Append, From: 2, To: 1, Term: api.MaxNum / 2, Index: api.MaxNum / 2}, 0).Msgs, []api.Msg{{Kind: api.Say, From: 1, To: 2, Term: api.MaxNum + 1}})
}
