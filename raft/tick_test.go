package raft_test

import (
	"testing"

	"tollgate/api"
	"tollgate/raft"
)

// P11.2: LIMIT reached, and one tick ahead of it; the clock begins anew with that tick's draw.
func TestTimeRunsOut(t *testing.T) {
	for _, draw := range draws {
		c := core(t, begin(three, api.Hard{Term: 4, Vote: 2}, 1, 3))
		for range api.Quiet - 1 {
			want(t, "Tick", c.Tick(draw), api.Output{Hard: api.Hard{Term: 4, Vote: 2}})
		}
		asks := api.Output{Hard: api.Hard{Term: 4, Vote: 2}, Msgs: []api.Msg{
			{Kind: api.AskPre, From: 1, To: 2, Term: 5, Index: 2, LogTerm: 3},
			{Kind: api.AskPre, From: 1, To: 3, Term: 5, Index: 2, LogTerm: 3},
		}}
		want(t, "it asks", c.Tick(draw), asks)
		want(t, "the role", c.View().Role, api.Asker)
		for range api.Quiet + rest(draw) - 1 {
			want(t, "Tick", c.Tick(0), api.Output{Hard: api.Hard{Term: 4, Vote: 2}})
		}
		want(t, "it asks again", c.Tick(0), asks)
	}
}

// P11.2: a follower that has a leader has none any more when it asks; who asks keeps its log and its Hard.
func TestAskForgetsTheLeader(t *testing.T) {
	c := core(t, begin(three, api.Hard{Term: 1}))
	c.Take(api.Msg{Kind: api.Append, From: 2, To: 1, Term: 1, Entries: rowOf(1, 1)}, 0)
	want(t, "the leader", c.View().Leader, 2)
	for range api.Quiet {
		want(t, "the role", c.View().Role, api.Follower)
		c.Tick(0)
	}
	want(t, "it asks", c.View(), api.View{Role: api.Asker, Hard: api.Hard{Term: 1}, Last: 1, Members: three})
}

// P11.2: one voter alone leads at once, and commits what it has.
func TestOneVoterAlone(t *testing.T) {
	c := core(t, begin(voters(1), api.Hard{}))
	for range api.Quiet - 1 {
		want(t, "Tick", c.Tick(0), api.Output{})
	}
	hard := api.Hard{Term: 1, Vote: 1}
	want(t, "it leads", c.Tick(0), api.Output{Hard: hard, Entries: []api.Entry{noop(1, 1)}})
	want(t, "it leads", c.View(), api.View{Role: api.Leader, Leader: 1, Hard: hard, Last: 1, Commit: 1, Members: voters(1)})

	c = asker(t, begin(voters(1), api.Hard{Term: 6}, 1, 5))
	want(t, "with a log", c.View(), api.View{Role: api.Leader, Leader: 1, Hard: api.Hard{Term: 7, Vote: 1}, Last: 3, Commit: 3, Members: voters(1)})
}

// P11.2: one voter with learners hands its first entry on, which is committed already.
func TestOneVoterWithLearners(t *testing.T) {
	m := api.Members{Voters: []int{2}, Learners: []int{1, 3}}
	s := based(t, m, api.Hard{Term: 3}, api.Mark{Index: 5, Term: 2}, 3)
	s.Id = 2
	c := core(t, s)
	for range api.Quiet - 1 {
		c.Tick(0)
	}
	handed := []api.Entry{noop(4, 7)}
	want(t, "it leads", c.Tick(0), api.Output{Hard: api.Hard{Term: 4, Vote: 2}, Entries: handed, Msgs: []api.Msg{
		{Kind: api.Append, From: 2, To: 1, Term: 4, Index: 6, LogTerm: 3, Commit: 7, Entries: handed},
		{Kind: api.Append, From: 2, To: 3, Term: 4, Index: 6, LogTerm: 3, Commit: 7, Entries: handed},
	}})
}

// P11.2: who is no voter never asks, whatever time has passed.
func TestNoVoterNeverAsks(t *testing.T) {
	for _, m := range []api.Members{voters(2), voters(2, 3), {Voters: []int{2, 3}, Learners: []int{1}}} {
		c := core(t, begin(m, api.Hard{Term: 2}))
		for i := range 5 * api.Quiet {
			want(t, "Tick", c.Tick(i), api.Output{Hard: api.Hard{Term: 2}})
		}
		want(t, "the role", c.View().Role, api.Follower)
	}
}

// P11.2: asked are the other voters of the log's members, committed or not, and no learners.
func TestWhoIsAsked(t *testing.T) {
	s := begin(api.Members{Voters: []int{1, 5, 7}, Learners: []int{2, 6}}, api.Hard{Term: 1})
	s.Entries = []api.Entry{turn(t, 1, 1, api.Promote, 6), turn(t, 1, 2, api.Demote, 5), {Kind: api.Turn, Term: 1, Index: 3, Data: []byte("no change")}, turn(t, 1, 4, api.Remove, 3), {Kind: api.Turn, Term: 1, Index: 5}, turn(t, 1, 6, api.Add, 3)}
	c := core(t, s)
	want(t, "the members", c.View().Members, api.Members{Voters: []int{1, 6, 7}, Learners: []int{2, 3, 5}})
	for range api.Quiet - 1 {
		c.Tick(0)
	}
	ask := api.Msg{Kind: api.AskPre, From: 1, Term: 2, Index: 6, LogTerm: 1}
	to := func(n int) api.Msg { ask.To = n; return ask }
	want(t, "it asks", c.Tick(0).Msgs, []api.Msg{to(6), to(7)})

	s.Entries = []api.Entry{turn(t, 1, 1, api.Demote, 1)}
	c = core(t, s)
	for range 3 * api.Quiet {
		want(t, "no voter any more", c.Tick(0), api.Output{Hard: api.Hard{Term: 1}})
	}
	s.Entries = []api.Entry{{Kind: api.Data, Term: 1, Index: 1, Data: turn(t, 1, 1, api.Demote, 1).Data}}
	want(t, "a command changes no members", core(t, s).View().Members, s.Members)
}

// P11.2: a leader's beat, at each third tick, to all other members.
func TestBeat(t *testing.T) {
	m := api.Members{Voters: []int{1, 3}, Learners: []int{2, 4}}
	c := leader(t, begin(m, api.Hard{}))
	hard := api.Hard{Term: 1, Vote: 1}
	beat := api.Msg{Kind: api.Append, From: 1, Term: 1, Entries: []api.Entry{noop(1, 1)}}
	to := func(n int) api.Msg { beat.To = n; return beat }
	for range 4 {
		for range api.Beat - 1 {
			want(t, "between beats", c.Tick(9), api.Output{Hard: hard})
		}
		want(t, "a beat", c.Tick(9), api.Output{Hard: hard, Msgs: []api.Msg{to(2), to(3), to(4)}})
	}
}

// P11.2: a leader's first beat is three ticks behind its beginning, whatever its count was.
func TestBeatBeginsWithTheLeader(t *testing.T) {
	c := leader(t, begin(three, api.Hard{}))
	c.Tick(0)
	c.Tick(0)
	c.Take(api.Msg{Kind: api.SayVote, From: 2, To: 1, Term: 5}, 0)
	want(t, "it follows", c.View().Role, api.Follower)
	again := again(t, c)
	want(t, "the first tick", again.Tick(0).Msgs, []api.Msg{})
	want(t, "the second tick", again.Tick(0).Msgs, []api.Msg{})
	want(t, "the third tick", len(again.Tick(0).Msgs), 2)
}

// again lets core 1, of three, lead once more.
func again(t *testing.T, c *raft.Core) *raft.Core {
	t.Helper()
	for range 2*api.Quiet - 1 {
		if c.View().Role == api.Follower {
			c.Tick(0)
		}
	}
	term := c.View().Hard.Term + 1
	c.Take(api.Msg{Kind: api.SayPre, From: 2, To: 1, Term: term, Ok: true}, 0)
	c.Take(api.Msg{Kind: api.SayVote, From: 2, To: 1, Term: term, Ok: true}, 0)
	want(t, "it leads again", c.View().Role, api.Leader)
	return c
}

// P11.2, P11.4: QUIET just reached, and one tick ahead of it; it counts no further.
func TestQuiet(t *testing.T) {
	c := core(t, begin(three, api.Hard{Term: 1}))
	c.Take(api.Msg{Kind: api.Append, From: 2, To: 1, Term: 1}, 9)
	asked := func() bool {
		o := c.Fork().Take(api.Msg{Kind: api.AskPre, From: 3, To: 1, Term: 2}, 0)
		return o.Msgs[0].Ok
	}
	for i := range 2*api.Quiet - 2 {
		if asked() != (i >= api.Quiet) {
			t.Errorf("%d ticks behind the leader: %v", i, asked())
		}
		c.Tick(0)
	}
	c.Take(api.Msg{Kind: api.Install, From: 2, To: 1, Term: 1, Index: 1, LogTerm: 1, Data: snapOf(t, 1, 1, three)}, 9)
	if c.Take(api.Msg{Kind: api.AskPre, From: 3, To: 1, Term: 2, Index: 9, LogTerm: 1}, 0).Msgs[0].Ok {
		t.Error("a leader's snapshot is not heard")
	}
}

// P11.2: the clock goes on behind a refused vote, and begins anew with one that is given, and with each word of a leader.
func TestClockBeginsAnew(t *testing.T) {
	wait := func(what string, m api.Msg, draw, ticks int) {
		t.Helper()
		c := core(t, begin(three, api.Hard{Term: 1}, 1))
		for range api.Quiet - 3 {
			c.Tick(0)
		}
		if o := c.Take(m, draw); o.E != api.OK {
			t.Fatalf("%s: error %d", what, o.E)
		}
		for i := 1; ; i++ {
			if o := c.Tick(0); len(o.Msgs) > 0 {
				want(t, what, i, ticks)
				return
			}
		}
	}
	good := api.Msg{From: 2, To: 1, Term: 2, Index: 1, LogTerm: 1}
	of := func(k api.MsgKind) api.Msg { m := good; m.Kind = k; return m }
	for _, draw := range draws {
		anew := api.Quiet + rest(draw)
		wait("AskVote", of(api.AskVote), draw, anew)
		wait("Append", of(api.Append), draw, anew)
		behind := of(api.Append)
		behind.Index = 7
		wait("an Append that is ahead", behind, draw, anew)
		install := of(api.Install)
		install.Data = snapOf(t, 1, 1, three)
		wait("Install", install, draw, anew)
		refused := of(api.AskVote)
		refused.Index = 0
		wait("a refused vote", refused, draw, 3)
		wait("AskPre", of(api.AskPre), draw, 3)
		wait("SayPre", of(api.SayPre), draw, 3)
		wait("Say", of(api.Say), draw, 3)
		elder := of(api.Append)
		elder.Term = 0
		elder.LogTerm = 0
		wait("an elder leader", elder, draw, 3)
	}
}
