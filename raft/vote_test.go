package raft_test

import (
	"testing"

	"tollgate/api"
	"tollgate/raft"
)

func pre(from, term int) api.Msg {
	return api.Msg{Kind: api.SayPre, From: from, To: 1, Term: term, Ok: true}
}

func vote(from, term int) api.Msg {
	return api.Msg{Kind: api.SayVote, From: from, To: 1, Term: term, Ok: true}
}

// P11.4, example 2: with more than half of the voices it stands, with more than half of the votes it leads.
func TestThreeVoters(t *testing.T) {
	c := asker(t, begin(three, api.Hard{Term: 2, Vote: 3}, 1, 2))
	hard := api.Hard{Term: 3, Vote: 1}
	want(t, "it stands", c.Take(pre(3, 3), 0), api.Output{Hard: hard, Msgs: []api.Msg{
		{Kind: api.AskVote, From: 1, To: 2, Term: 3, Index: 2, LogTerm: 2},
		{Kind: api.AskVote, From: 1, To: 3, Term: 3, Index: 2, LogTerm: 2},
	}})
	want(t, "it stands", c.View(), api.View{Role: api.Candidate, Hard: hard, Last: 2, Members: three})
	handed := []api.Entry{noop(3, 3)}
	want(t, "it leads", c.Take(vote(2, 3), 0), api.Output{Hard: hard, Entries: handed, Msgs: []api.Msg{
		{Kind: api.Append, From: 1, To: 2, Term: 3, Index: 2, LogTerm: 2, Entries: handed},
		{Kind: api.Append, From: 1, To: 3, Term: 3, Index: 2, LogTerm: 2, Entries: handed},
	}})
	want(t, "it leads", c.View(), api.View{Role: api.Leader, Leader: 1, Hard: hard, Last: 3, Members: three})
	want(t, "its log", all(c), append(rowOf(1, 1, 2), noop(3, 3)))
	want(t, "a vote more", c.Take(vote(3, 3), 0), api.Output{Hard: hard})
}

// P11.2: a leader's first entry goes to each other member, whatever its number.
func TestNineMembers(t *testing.T) {
	c := candidate(t, begin(api.Members{Voters: []int{1, 2, 3, 4, 5, 9}, Learners: []int{6, 7, 8}}, api.Hard{Term: 1}, 1))
	var o api.Output
	for n := 2; n <= 4; n++ {
		o = c.Take(vote(n, 2), 0)
	}
	var msgs []api.Msg
	for n := 2; n <= 9; n++ {
		msgs = append(msgs, sent(n, 2, 1, 1, 0, 0, noop(2, 2)))
	}
	want(t, "it leads", o.Msgs, msgs)
}

// P11.4: how many voices it takes; a voice twice is one, and who votes not has none.
func TestVoices(t *testing.T) {
	for _, x := range []struct {
		m    api.Members
		from []int // the last one is the one that it takes
	}{
		{two, []int{3, 9, 2}},
		{three, []int{4, 4, 5, 3}},
		{voters(1, 2, 3, 4), []int{3, 3, 7, 2}},
		{five, []int{5, 5, 5, 6, 2}},
		{api.Members{Voters: []int{1, 2, 3}, Learners: []int{4, 5}}, []int{4, 5, 2}},
	} {
		c := asker(t, begin(x.m, api.Hard{}))
		for i, from := range x.from {
			want(t, "an asker", c.View().Role, api.Asker)
			if o := c.Take(pre(from, 1), 0); i < len(x.from)-1 {
				want(t, "SayPre", o, api.Output{})
			}
		}
		for i, from := range x.from {
			want(t, "a candidate", c.View().Role, api.Candidate)
			if o := c.Take(vote(from, 1), 0); i < len(x.from)-1 {
				want(t, "SayVote", o, api.Output{Hard: api.Hard{Term: 1, Vote: 1}})
			}
		}
		want(t, "a leader", c.View().Role, api.Leader)
	}
}

// P11.4: who asked is not counted as who voted: a candidate begins with itself alone, and asks anew with nobody.
func TestVoicesAreNoVotes(t *testing.T) {
	c := asker(t, begin(five, api.Hard{}))
	c.Take(pre(2, 1), 0)
	for range api.Quiet {
		c.Tick(0)
	}
	c.Take(pre(3, 1), 0)
	want(t, "voices of two askings", c.View().Role, api.Asker)
	c.Take(pre(4, 1), 0)
	want(t, "enough voices", c.View().Role, api.Candidate)
	c.Take(vote(2, 1), 0)
	want(t, "one vote", c.View().Role, api.Candidate)
	for range api.Quiet {
		c.Tick(0)
	}
	want(t, "it asks once more", c.View(), api.View{Role: api.Asker, Hard: api.Hard{Term: 1, Vote: 1}, Members: five})
	c.Take(vote(3, 1), 0)
	want(t, "a vote comes too late", c.View().Role, api.Asker)
	c.Take(pre(3, 2), 0)
	c.Take(pre(4, 2), 0)
	want(t, "it stands once more", c.View().Hard, api.Hard{Term: 2, Vote: 1})
}

// P11.4: a candidate's clock begins anew when it stands, with that message's draw.
func TestStandingBeginsTheClock(t *testing.T) {
	for _, draw := range draws {
		c := asker(t, begin(three, api.Hard{}))
		for range api.Quiet - 1 {
			c.Tick(0)
		}
		c.Take(pre(2, 1), draw)
		for range api.Quiet + rest(draw) - 1 {
			want(t, "Tick", c.Tick(0), api.Output{Hard: api.Hard{Term: 1, Vote: 1}})
		}
		want(t, "it asks", len(c.Tick(0).Msgs), 2)
	}
}

// roles are a core of three of each role, of term 3 and with an entry of term 2.
func roles(t *testing.T) map[string]*raft.Core {
	t.Helper()
	follower := core(t, begin(three, api.Hard{Term: 3, Vote: 2}, 2))
	follower.Take(api.Msg{Kind: api.Append, From: 2, To: 1, Term: 3}, 0)
	return map[string]*raft.Core{
		"a follower":  follower,
		"an asker":    asker(t, begin(three, api.Hard{Term: 3, Vote: 2}, 2)),
		"a candidate": candidate(t, begin(three, api.Hard{Term: 2, Vote: 2}, 2)),
		"a leader":    leader(t, begin(three, api.Hard{Term: 2, Vote: 2}, 2)),
	}
}

// P11.4: a message of a later term, of each kind, to each role: it follows, but for AskPre, and SayPre with Ok.
func TestLaterTerm(t *testing.T) {
	for name, c := range roles(t) {
		before := c.View()
		for kind := api.AskPre; kind <= api.Say; kind++ {
			for _, ok := range []bool{false, true} {
				m := api.Msg{Kind: kind, From: 3, To: 1, Term: 7, Ok: ok, Round: 6}
				if kind == api.Install {
					m.Index, m.LogTerm, m.Data = 1, 2, snapOf(t, 1, 2, three)
				}
				f := c.Fork()
				o := f.Take(m, 0)
				v := f.View()
				want(t, name+": the Hard told", o.Hard, v.Hard)
				if kind == api.AskPre || kind == api.SayPre && ok {
					want(t, name+" stays", v, before)
					continue
				}
				follows := before
				follows.Role, follows.Leader, follows.Hard = api.Follower, 0, api.Hard{Term: 7}
				if kind == api.Append || kind == api.Install {
					follows.Leader = 3
				}
				follows.Commit, follows.Base, follows.Members = v.Commit, v.Base, v.Members
				follows.Last = v.Last
				want(t, name+" follows", v, follows)
			}
		}
	}
}

// P11.4: a message of an elder term, of each kind, to each role: what asks is answered without Ok, and nothing changes.
func TestElderTerm(t *testing.T) {
	answers := map[api.MsgKind]api.Msg{
		api.AskPre:  {Kind: api.SayPre, From: 1, To: 3, Term: 3},
		api.AskVote: {Kind: api.SayVote, From: 1, To: 3, Term: 3},
		api.Append:  {Kind: api.Say, From: 1, To: 3, Term: 3, Round: 6},
		api.Install: {Kind: api.Say, From: 1, To: 3, Term: 3, Round: 6},
	}
	for name, c := range roles(t) {
		for kind := api.AskPre; kind <= api.Say; kind++ {
			for _, ok := range []bool{false, true} {
				m := api.Msg{Kind: kind, From: 3, To: 1, Term: 2, Index: 9, LogTerm: 2, Commit: 9, Hint: 1, Round: 6, Ok: ok, Data: snapOf(t, 9, 2, five)}
				before := probed(c, 1)
				var msgs []api.Msg
				if a, there := answers[kind]; there {
					msgs = append(msgs, a)
				}
				want(t, name, c.Take(m, 5), api.Output{Hard: c.View().Hard, Msgs: msgs})
				if probed(c, 1) != before {
					t.Errorf("%s: a message of kind %d of an elder term has changed something", name, kind)
				}
			}
		}
	}
}

// P11.4: SayPre counts with Ok, of an Asker, with the next term alone; SayVote with Ok, of a Candidate, with its term.
func TestVoicesOutOfPlace(t *testing.T) {
	for name, c := range roles(t) {
		hard := c.View().Hard
		none := func(what string, m api.Msg) {
			t.Helper()
			before := probed(c, 1)
			want(t, name+", "+what, c.Take(m, 5), api.Output{Hard: hard})
			if probed(c, 1) != before {
				t.Errorf("%s, %s: something has changed", name, what)
			}
		}
		none("SayPre of its own term", pre(2, 3))
		none("SayPre of a much later term", pre(2, 5))
		refused := pre(2, 3)
		refused.Ok = false
		none("SayPre without Ok", refused)
		if c.View().Role != api.Asker {
			none("SayPre", pre(2, 4))
		}
		no := vote(2, 3)
		no.Ok = false
		none("SayVote without Ok", no)
		if c.View().Role != api.Candidate {
			none("SayVote", vote(2, 3))
		}
	}
}

// logs are what may be asked of a core whose last entry is 3, of term 4: is it as good?
var logs = []struct {
	index, term int
	good        bool
}{
	{3, 4, true}, {4, 4, true}, {2, 4, false}, {0, 4, false}, {3, 5, true}, {1, 5, true}, {0, 5, true},
	{3, 3, false}, {9, 3, false}, {9, 0, false}, {0, 0, false}, {api.MaxNum / 2, api.MaxNum / 2, true}, {api.MaxNum / 2, 3, false},
}

// P11.4: AskPre is answered Ok for a later term, a log as good, by no leader, when it is quiet.
func TestAskPre(t *testing.T) {
	hard := api.Hard{Term: 6, Vote: 3}
	for _, s := range []api.Begin{begin(three, hard, 1, 4, 4), based(t, three, hard, api.Mark{Index: 3, Term: 4})} {
		c := core(t, s)
		before := probed(c, 1)
		for _, l := range logs {
			for _, term := range []int{6, 7, 8, api.MaxNum / 2} {
				m := api.Msg{Kind: api.AskPre, From: 2, To: 1, Term: term, Index: l.index, LogTerm: l.term, Round: 4}
				a := api.Msg{Kind: api.SayPre, From: 1, To: 2, Term: 6}
				if l.good && term > 6 {
					a.Term, a.Ok = term, true
				}
				want(t, "AskPre of "+shown(m), c.Take(m, 5), api.Output{Hard: hard, Msgs: []api.Msg{a}})
			}
		}
		if probed(c, 1) != before {
			t.Error("AskPre has changed something")
		}
	}
	m := api.Msg{Kind: api.AskPre, From: 2, To: 1, Term: 9, Index: 9, LogTerm: 9}
	for name, c := range roles(t) {
		yes := name == "an asker" || name == "a candidate"
		a := api.Msg{Kind: api.SayPre, From: 1, To: 2, Term: 3, Ok: yes}
		if yes {
			a.Term = 9
		}
		want(t, name, c.Take(m, 5).Msgs, []api.Msg{a})
	}
}

// P11.4, P11.6: a vote is given once in a term, for a log as good, and again to the same one.
func TestAskVote(t *testing.T) {
	for _, given := range []int{0, 2, 3, 1} {
		for _, l := range logs {
			for _, term := range []int{6, 7} {
				hard := api.Hard{Term: 6, Vote: given}
				c := core(t, begin(three, hard, 1, 4, 4))
				m := api.Msg{Kind: api.AskVote, From: 2, To: 1, Term: term, Index: l.index, LogTerm: l.term, Round: 4}
				if term > 6 {
					hard = api.Hard{Term: term}
				}
				a := api.Msg{Kind: api.SayVote, From: 1, To: 2, Term: term}
				if l.good && (hard.Vote == 0 || hard.Vote == 2) {
					hard.Vote, a.Ok = 2, true
				}
				want(t, "AskVote of "+shown(m), c.Take(m, 5), api.Output{Hard: hard, Msgs: []api.Msg{a}})
				want(t, "its Hard", c.View().Hard, hard)
				want(t, "its leader", c.View().Leader, 0)
			}
		}
	}
}

// P11.6: behind a vote no other one of its term, though asked as often as one likes; a later term has one of its own.
func TestOneVoteATerm(t *testing.T) {
	c := core(t, begin(five, api.Hard{}))
	ask := func(from, term int) bool {
		return c.Take(api.Msg{Kind: api.AskVote, From: from, To: 1, Term: term, Index: 9, LogTerm: term}, 0).Msgs[0].Ok
	}
	for term := 1; term < 5; term++ {
		first := 2 + term%4
		for range 3 {
			for i := range 4 {
				from := 2 + (term+i)%4
				if ask(from, term) != (from == first) {
					t.Errorf("term %d: a vote for %d, or none for %d", term, from, first)
				}
			}
		}
	}
}

// P11.4: an asker of a term in which it voted not may vote, and asks on; a candidate and a leader have voted for themselves.
func TestVotesOfRoles(t *testing.T) {
	ask := api.Msg{Kind: api.AskVote, From: 3, To: 1, Term: 3, Index: 9, LogTerm: 3}
	c := asker(t, begin(three, api.Hard{Term: 3}, 2))
	if !c.Take(ask, 0).Msgs[0].Ok {
		t.Error("an asker votes not")
	}
	want(t, "an asker that voted", c.View(), api.View{Role: api.Asker, Hard: api.Hard{Term: 3, Vote: 3}, Last: 1, Members: three})
	if c.Take(pre(2, 4), 0); c.View().Role != api.Candidate {
		t.Error("an asker that voted stands not")
	}
	for name, c := range roles(t) {
		if name == "a candidate" || name == "a leader" {
			before := c.View()
			want(t, name, c.Take(ask, 0).Msgs, []api.Msg{{Kind: api.SayVote, From: 1, To: 3, Term: 3}})
			want(t, name, c.View(), before)
		}
	}
}
