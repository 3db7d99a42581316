package raft_test

import (
	"bytes"
	"math"
	"testing"

	"tollgate/api"
	"tollgate/raft"
)

// P11.3: only a leader proposes, changes and reads; that error is the first one.
func TestOnlyLeaders(t *testing.T) {
	for name, c := range roles(t) {
		if name == "a leader" {
			continue
		}
		wantOnly(t, name, c, api.ErrLeader, func() api.Output { return c.Propose([]byte("x")) })
		wantOnly(t, name, c, api.ErrLeader, func() api.Output { return c.Propose(make([]byte, api.MaxData+1)) })
		wantOnly(t, name, c, api.ErrLeader, func() api.Output { return c.Change(api.Change{Do: api.Add, Node: 4}) })
		wantOnly(t, name, c, api.ErrLeader, func() api.Output { return c.Change(api.Change{}) })
		wantOnly(t, name, c, api.ErrLeader, func() api.Output { return c.Read(0) })
	}
}

// P11.2: a step that is refused tells the core's Hard: the one that it began with, and the one of now behind a later term and a vote.
func TestRefusedStepsTellHard(t *testing.T) {
	c := core(t, begin(voters(2), api.Hard{Term: 3, Vote: 2}))
	refused := func(hard api.Hard) {
		t.Helper()
		want(t, "Propose", c.Propose([]byte("x")), api.Output{E: api.ErrLeader, Hard: hard})
		want(t, "Change", c.Change(api.Change{Do: api.Add, Node: 3}), api.Output{E: api.ErrLeader, Hard: hard})
		want(t, "Read", c.Read(1), api.Output{E: api.ErrLeader, Hard: hard})
		want(t, "Take of its own", c.Take(api.Msg{Kind: api.Say, From: 1, To: 1}, 0), api.Output{E: api.ErrArg, Hard: hard})
		want(t, "Take of a later term that is not right", c.Take(api.Msg{Kind: api.AskVote, From: 2, To: 1, Term: 9, Hint: -1}, 0), api.Output{E: api.ErrArg, Hard: hard})
	}
	refused(api.Hard{Term: 3, Vote: 2})
	c.Take(api.Msg{Kind: api.SayVote, From: 2, To: 1, Term: 5}, 0)
	refused(api.Hard{Term: 5})
	c.Take(api.Msg{Kind: api.AskVote, From: 4, To: 1, Term: 6}, 0)
	refused(api.Hard{Term: 6, Vote: 4})
	refused(api.Hard{Term: 6, Vote: 4})
}

// P11.2: of a leader each error that a step has.
func TestRefusedStepsOfLeaderTellHard(t *testing.T) {
	c := leader(t, begin(api.Members{Voters: []int{1}, Learners: []int{2}}, api.Hard{}))
	want(t, "too many bytes", c.Propose(make([]byte, api.MaxData+1)), api.Output{E: api.ErrLimit, Hard: first})
	want(t, "who is behind", c.Change(api.Change{Do: api.Promote, Node: 2}), api.Output{E: api.ErrBusy, Hard: first})
	want(t, "nobody", c.Change(api.Change{Do: api.Remove, Node: 9}), api.Output{E: api.ErrGone, Hard: first})
	want(t, "no change", c.Change(api.Change{}), api.Output{E: api.ErrArg, Hard: first})
	want(t, "a message of its own", c.Take(api.Msg{Kind: api.Say, From: 1, To: 1}, 0), api.Output{E: api.ErrArg, Hard: first})
	for range api.MaxLog {
		c.Propose(nil)
	}
	want(t, "a full log", c.Propose(nil), api.Output{E: api.ErrBusy, Hard: first})
	young := leader(t, begin(three, api.Hard{Term: 7, Vote: 3}))
	want(t, "a read too early", young.Read(1), api.Output{E: api.ErrBusy, Hard: api.Hard{Term: 8, Vote: 1}})
}

// P11.3: nil, empty and MaxData bytes, and one more.
func TestPropose(t *testing.T) {
	c := leader(t, begin(api.Members{Voters: []int{1, 3}, Learners: []int{2}}, api.Hard{}))
	log := []api.Entry{noop(1, 1)}
	for i, data := range [][]byte{nil, {}, []byte("x"), make([]byte, api.MaxData)} {
		e := api.Entry{Kind: api.Data, Term: 1, Index: 2 + i, Data: data}
		log = append(log, e)
		want(t, "Propose", c.Propose(data), api.Output{Index: 2 + i, Hard: first, Entries: []api.Entry{e}, Msgs: []api.Msg{sent(2, 1, 0, 0, 0, 0, log...), sent(3, 1, 0, 0, 0, 0, log...)}})
	}
	want(t, "the log", all(c), log)
	wantOnly(t, "too many bytes", c, api.ErrLimit, func() api.Output { return c.Propose(make([]byte, api.MaxData+1)) })
}

// P11.3: one voter alone commits at once, and its learners are told so.
func TestProposeAlone(t *testing.T) {
	c := leader(t, begin(api.Members{Voters: []int{1}, Learners: []int{2}}, api.Hard{}))
	o := c.Propose([]byte("x"))
	e := api.Entry{Kind: api.Data, Term: 1, Index: 2, Data: []byte("x")}
	want(t, "Propose", o, api.Output{Index: 2, Hard: first, Entries: []api.Entry{e}, Msgs: []api.Msg{sent(2, 1, 0, 0, 2, 0, noop(1, 1), e)}})
	want(t, "Commit", c.View().Commit, 2)
}

// P11.3: MaxLog entries, and one fewer; behind a snapshot there is room again; ErrLimit is named first.
func TestProposeUpToMaxLog(t *testing.T) {
	c := leader(t, begin(voters(1), api.Hard{}))
	for i := 2; i <= api.MaxLog; i++ {
		want(t, "Propose", c.Propose(nil).Index, i)
	}
	wantOnly(t, "a full log", c, api.ErrBusy, func() api.Output { return c.Propose(nil) })
	wantOnly(t, "a full log", c, api.ErrLimit, func() api.Output { return c.Propose(make([]byte, api.MaxData+1)) })
	wantOnly(t, "a full log", c, api.ErrBusy, func() api.Output { return c.Change(api.Change{Do: api.Add, Node: 2}) })
	want(t, "a read", c.Read(1).Reads, []api.Read{{Tag: 1, Index: api.MaxLog}})
	want(t, "Compact", c.Compact(1, snapOf(t, 1, 1, voters(1))), api.OK)
	f := c.Fork()
	want(t, "room for one", c.Propose(nil).Index, api.MaxLog+1)
	wantOnly(t, "a full log", c, api.ErrBusy, func() api.Output { return c.Propose(nil) })
	want(t, "room for a change", f.Change(api.Change{Do: api.Add, Node: 2}).Index, api.MaxLog+1)
	wantOnly(t, "a full log", f, api.ErrBusy, func() api.Output { return f.Change(api.Change{Do: api.Remove, Node: 2}) })

	s := begin(voters(1), api.Hard{Term: 1})
	for i := range api.MaxLog + 5 {
		s.Entries = append(s.Entries, entry(1, i+1))
	}
	c = leader(t, s)
	want(t, "a first entry needs no room", c.View().Last, api.MaxLog+6)
	wantOnly(t, "more than full", c, api.ErrBusy, func() api.Output { return c.Propose(nil) })
}

// P11.3: a change: the entry, who are told, and what is known of a new one.
func TestChange(t *testing.T) {
	c := proposed(t, three, 1)
	says(c, 2, 2, 0)
	add := turn(t, 1, 3, api.Add, 5)
	log := append(logUpTo(1, 2), add)
	want(t, "Add", c.Change(api.Change{Do: api.Add, Node: 5}), api.Output{Index: 3, Hard: first, Entries: []api.Entry{add}, Msgs: []api.Msg{
		sent(2, 1, 2, 1, 2, 0, add), sent(3, 1, 0, 0, 2, 0, log...), sent(5, 1, 2, 1, 2, 0, add),
	}})
	want(t, "Add", c.View().Members, api.Members{Voters: []int{1, 2, 3}, Learners: []int{5}})
	says(c, 2, 3, 0)
	want(t, "Commit", c.View().Commit, 3)
	remove := turn(t, 1, 4, api.Remove, 3)
	want(t, "Remove", c.Change(api.Change{Do: api.Remove, Node: 3}), api.Output{Index: 4, Hard: first, Entries: []api.Entry{remove}, Msgs: []api.Msg{
		sent(2, 1, 3, 1, 3, 0, remove), sent(5, 1, 2, 1, 3, 0, add, remove),
	}})
	want(t, "Remove", c.View().Members, api.Members{Voters: []int{1, 2}, Learners: []int{5}})
	want(t, "who is removed is not heard", says(c, 3, 4, 0), api.Output{Hard: first})
	says(c, 2, 4, 0)
	want(t, "Commit", c.View().Commit, 4)
	want(t, "Demote", c.Change(api.Change{Do: api.Demote, Node: 2}).Index, 5)
	want(t, "one voter alone commits it at once", c.View(), api.View{Role: api.Leader, Leader: 1, Hard: first, Last: 5, Commit: 5, Members: api.Members{Voters: []int{1}, Learners: []int{2, 5}}})
}

// P11.3: of a node that was none nothing is known, though it was one before and had said much.
func TestChangeForgets(t *testing.T) {
	c := proposed(t, two, 0)
	says(c, 2, 1, 0)
	c.Read(1)
	c.Read(2)
	says(c, 2, 1, 2)
	c.Change(api.Change{Do: api.Demote, Node: 2})
	c.Change(api.Change{Do: api.Remove, Node: 2})
	c.Propose(entry(1, 4).Data)
	add := turn(t, 1, 5, api.Add, 2)
	want(t, "Add", c.Change(api.Change{Do: api.Add, Node: 2}).Msgs, []api.Msg{sent(2, 1, 4, 1, 5, 2, add)})
	want(t, "MATCH is 0", no(c, 2, 1, 0).Msgs[0].Index, 0)
	wantOnly(t, "MATCH is 0", c, api.ErrBusy, func() api.Output { return c.Change(api.Change{Do: api.Promote, Node: 2}) })
	says(c, 2, 5, 0)
	want(t, "Promote", c.Change(api.Change{Do: api.Promote, Node: 2}).Index, 6)
}

// P11.3, P11.9: a read that waits counts not what a node said ahead of being taken out and in again.
func TestChangeForgetsRounds(t *testing.T) {
	c := proposed(t, five, 0)
	says(c, 2, 1, 0)
	says(c, 3, 1, 0)
	c.Read(1)
	says(c, 2, 1, 1)
	for i, do := range []api.Do{api.Remove, api.Add, api.Promote} {
		want(t, "Change", c.Change(api.Change{Do: do, Node: 2}).Index, 2+i)
		for n := 2; n <= 5; n++ {
			want(t, "it waits", says(c, n, 2+i, 0).Reads, []api.Read{})
		}
	}
	want(t, "the members", c.View().Members, five)
	want(t, "two of five", says(c, 3, 4, 1).Reads, []api.Read{})
	want(t, "three of five", says(c, 2, 4, 1).Reads, []api.Read{{Tag: 1, Index: 1}})
}

// P11.3: no NEXT or MATCH is forgotten of who was a member.
func TestChangeKeeps(t *testing.T) {
	m := api.Members{Voters: []int{1, 2}, Learners: []int{3}}
	c := proposed(t, m, 2)
	says(c, 2, 3, 0)
	says(c, 3, 3, 0)
	o := c.Change(api.Change{Do: api.Promote, Node: 3})
	promote := turn(t, 1, 4, api.Promote, 3)
	want(t, "Promote", o.Msgs, []api.Msg{sent(2, 1, 3, 1, 3, 0, promote), sent(3, 1, 3, 1, 3, 0, promote)})
	says(c, 2, 4, 0)
	demote := turn(t, 1, 5, api.Demote, 3)
	want(t, "Demote", c.Change(api.Change{Do: api.Demote, Node: 3}).Msgs, []api.Msg{sent(2, 1, 4, 1, 4, 0, demote), sent(3, 1, 3, 1, 4, 0, promote, demote)})
	want(t, "the hint of who has three", no(c, 3, 1, 0).Msgs, []api.Msg{sent(3, 1, 3, 1, 4, 0, promote, demote)})
}

// P11.3: Promote of a node just at Commit, and one index behind it.
func TestPromote(t *testing.T) {
	c := proposed(t, api.Members{Voters: []int{1, 2}, Learners: []int{3}}, 3)
	says(c, 2, 3, 0)
	promote := func() api.Output { return c.Change(api.Change{Do: api.Promote, Node: 3}) }
	wantOnly(t, "it has nothing", c, api.ErrBusy, promote)
	says(c, 3, 2, 0)
	wantOnly(t, "it is one behind", c, api.ErrBusy, promote)
	wantOnly(t, "no voter", c, api.ErrGone, func() api.Output { return c.Change(api.Change{Do: api.Demote, Node: 3}) })
	wantOnly(t, "no learner", c, api.ErrGone, func() api.Output { return c.Change(api.Change{Do: api.Promote, Node: 2}) })
	want(t, "Remove of one that is behind", c.Fork().Change(api.Change{Do: api.Remove, Node: 3}).E, api.OK)
	says(c, 3, 3, 0)
	want(t, "it is as far as Commit", promote().Index, 5)
}

// P11.3: ErrBusy ahead of member.Apply's errors, and these, each by its name.
func TestChangeErrors(t *testing.T) {
	wrong := map[api.Change]api.Errno{
		{}: api.ErrArg, {Do: api.Add}: api.ErrArg, {Do: api.Remove + 1, Node: 2}: api.ErrArg, {Do: -1, Node: 2}: api.ErrArg,
		{Do: api.Add, Node: api.MaxNode + 1}: api.ErrArg, {Do: api.Remove, Node: -1}: api.ErrArg, {Do: math.MaxInt, Node: math.MinInt}: api.ErrArg,
		{Do: api.Add, Node: 2}: api.ErrKnown, {Do: api.Add, Node: 1}: api.ErrKnown, {Do: api.Add, Node: 3}: api.ErrKnown,
		{Do: api.Promote, Node: 4}: api.ErrGone, {Do: api.Promote, Node: 1}: api.ErrGone, {Do: api.Demote, Node: 2}: api.ErrGone, {Do: api.Remove, Node: 4}: api.ErrGone,
		{Do: api.Demote, Node: 1}: api.ErrLimit, {Do: api.Remove, Node: 1}: api.ErrLimit,
		{Do: api.Promote, Node: 2}: api.ErrBusy,
	}
	alone := leader(t, begin(api.Members{Voters: []int{1}, Learners: []int{2, 3}}, api.Hard{}))
	young := leader(t, begin(two, api.Hard{Term: 1}, 1))
	for x, e := range wrong {
		wantOnly(t, "Change of "+shown(x), alone, e, func() api.Output { return alone.Change(x) })
		wantOnly(t, "the term at Commit is not its own", young, api.ErrBusy, func() api.Output { return young.Change(x) })
	}
}

// P11.3: while the term at Commit is not its own: neither changes nor reads; with a commit of an elder term neither.
func TestBusyUntilOwnCommit(t *testing.T) {
	add := api.Change{Do: api.Add, Node: 7}
	busy := func(c *raft.Core) {
		t.Helper()
		wantOnly(t, "Change", c, api.ErrBusy, func() api.Output { return c.Change(add) })
		wantOnly(t, "Read", c, api.ErrBusy, func() api.Output { return c.Read(1) })
	}
	c := leader(t, begin(three, api.Hard{}))
	busy(c)
	c = leader(t, based(t, three, api.Hard{Term: 2}, api.Mark{Index: 5, Term: 2}, 2))
	busy(c)
	says(c, 2, 6, 0)
	busy(c)
	want(t, "Propose is not busy", c.Propose(nil).E, api.OK)
	says(c, 2, 7, 0)
	want(t, "Change", c.Fork().Change(add).E, api.OK)
	want(t, "Read", c.Fork().Read(1).E, api.OK)
	want(t, "Compact", c.Compact(7, snapOf(t, 7, 3, three)), api.OK)
	want(t, "with Commit at Base", c.Fork().Read(1).E, api.OK)
}

// P11.3: one change at a time: until it is committed, and a Turn of any bytes counts.
func TestOneChangeAtATime(t *testing.T) {
	c := proposed(t, three, 0)
	says(c, 2, 1, 0)
	c.Change(api.Change{Do: api.Add, Node: 7})
	c.Propose(nil)
	next := func() api.Output { return c.Change(api.Change{Do: api.Add, Node: 8}) }
	wantOnly(t, "a Turn stands behind Commit", c, api.ErrBusy, next)
	wantOnly(t, "though this one could not be", c, api.ErrBusy, func() api.Output { return c.Change(api.Change{}) })
	says(c, 2, 2, 0)
	want(t, "it is committed", next().Index, 4)

	s := begin(three, api.Hard{Term: 1}, 1)
	s.Entries = append(s.Entries, api.Entry{Kind: api.Turn, Term: 1, Index: 2, Data: []byte("no change")})
	c = leader(t, s)
	wantOnly(t, "a Turn that is no change", c, api.ErrBusy, next)
	says(c, 2, 3, 0)
	want(t, "it is committed", next().Index, 4)
}

// P11.3: MaxReads reads, and one more; tags may be any, and the same.
func TestReadsUpToMaxReads(t *testing.T) {
	c := proposed(t, three, 1)
	says(c, 2, 1, 0)
	var reads []api.Read
	for i := range api.MaxReads {
		tag := []int{0, -1, math.MaxInt, math.MinInt, 7}[i%5]
		want(t, "Read", c.Read(tag), api.Output{Hard: first, Msgs: []api.Msg{sent(2, 1, 1, 1, 1, i+1, entry(1, 2)), sent(3, 1, 0, 0, 1, i+1, logUpTo(1, 2)...)}})
		reads = append(reads, api.Read{Tag: tag, Index: 1})
	}
	wantOnly(t, "one more", c, api.ErrBusy, func() api.Output { return c.Read(1) })
	want(t, "the first ones", says(c, 2, 2, 3).Reads, reads[:3])
	want(t, "there is room", c.Read(5).Msgs[0].Round, api.MaxReads+1)
	want(t, "the others", says(c, 3, 2, api.MaxReads+1).Reads, append(reads[3:], api.Read{Tag: 5, Index: 2}))
}

// P3: what was handed in and what is answered is nobody else's.
func TestProposeKeepsNothing(t *testing.T) {
	c := proposed(t, three, 0)
	data := append(make([]byte, 0, 8), "data"...)
	o := c.Propose(data)
	spoilBytes(data)
	spoil(o.Entries)
	spoil(o.Msgs[0].Entries)
	e := api.Entry{Kind: api.Data, Term: 1, Index: 2, Data: []byte("data")}
	want(t, "the other message", o.Msgs[1].Entries, []api.Entry{noop(1, 1), e})
	want(t, "the log", c.Entries(2, 2), []api.Entry{e})
	spoil(c.Entries(1, 2))
	want(t, "the log", c.Entries(2, 2), []api.Entry{e})
	v := c.View()
	clear(v.Members.Voters)
	want(t, "the members", c.View().Members, three)
	if !bytes.Equal(all(c)[1].Data, []byte("data")) {
		t.Error("the log was spoiled")
	}
}
