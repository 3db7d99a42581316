package raft_test

import (
	"slices"
	"testing"

	"tollgate/api"
	"tollgate/raft"
)

// sent is an Append of the leader 1.
func sent(to, term, index, logTerm, commit, round int, entries ...api.Entry) api.Msg {
	return api.Msg{Kind: api.Append, From: 1, To: to, Term: term, Index: index, LogTerm: logTerm, Commit: commit, Round: round, Entries: entries}
}

func no(c *raft.Core, from, hint, round int) api.Output {
	return c.Take(api.Msg{Kind: api.Say, From: from, To: 1, Term: c.View().Hard.Term, Hint: hint, Round: round}, 0)
}

var first = api.Hard{Term: 1, Vote: 1}

// proposed is a leader of term 1 with a Noop and so many commands behind it, of which nobody has said anything.
func proposed(t *testing.T, m api.Members, commands int) *raft.Core {
	t.Helper()
	c := leader(t, begin(m, api.Hard{}))
	for i := range commands {
		want(t, "Propose", c.Propose(entry(1, 2+i).Data).Index, 2+i)
	}
	return c
}

// logUpTo is what proposed makes, from an index to another one.
func logUpTo(from, to int) []api.Entry {
	l := []api.Entry{noop(1, 1)}
	for i := 2; i <= to; i++ {
		l = append(l, entry(1, i))
	}
	return l[from-1:]
}

// P11.4: Say with Ok: what more than half have of its own term is committed; who is behind is sent more.
func TestSayCommits(t *testing.T) {
	c := proposed(t, three, 3)
	want(t, "nobody", c.View().Commit, 0)
	want(t, "2 has one", says(c, 2, 1, 0), api.Output{Hard: first, Msgs: []api.Msg{sent(2, 1, 1, 1, 1, 0, logUpTo(2, 4)...)}})
	want(t, "2 has one", c.View().Commit, 1)
	want(t, "3 has two", says(c, 3, 2, 0), api.Output{Hard: first, Msgs: []api.Msg{sent(3, 1, 2, 1, 2, 0, logUpTo(3, 4)...)}})
	want(t, "3 has two", c.View().Commit, 2)
	want(t, "2 has all", says(c, 2, 4, 0), api.Output{Hard: first})
	want(t, "2 has all", c.View().Commit, 4)
	want(t, "3 has two still", says(c, 3, 1, 0), api.Output{Hard: first, Msgs: []api.Msg{sent(3, 1, 2, 1, 4, 0, logUpTo(3, 4)...)}})
	want(t, "3 tells of more than there is", says(c, 3, api.MaxNum/2, 0), api.Output{Hard: first})
	c.Propose(entry(1, 5).Data)
	want(t, "what 3 told was cut", c.View().Commit, 4)
	want(t, "3 has what is new not", says(c, 3, 4, 0).Msgs, []api.Msg{sent(3, 1, 4, 1, 4, 0, entry(1, 5))})
}

// P11.4: five voters: the third one counts; a learner does not.
func TestSayOfFive(t *testing.T) {
	c := proposed(t, api.Members{Voters: []int{1, 2, 3, 4, 5}, Learners: []int{6}}, 3)
	for _, x := range [][3]int{{6, 4, 0}, {2, 3, 0}, {2, 3, 0}, {3, 1, 1}, {4, 4, 3}, {5, 4, 4}} {
		says(c, x[0], x[1], 0)
		want(t, "Commit", c.View().Commit, x[2])
	}
}

// P11.4: an entry of an elder term counts only with one of the leader's own behind it.
func TestSayOfElderTerm(t *testing.T) {
	c := leader(t, begin(three, api.Hard{Term: 3}, 1, 2, 2))
	hard := api.Hard{Term: 4, Vote: 1}
	want(t, "2 has the elder ones", says(c, 2, 3, 0), api.Output{Hard: hard, Msgs: []api.Msg{sent(2, 4, 3, 2, 0, 0, noop(4, 4))}})
	want(t, "Commit", c.View().Commit, 0)
	want(t, "2 has its own", says(c, 2, 4, 0), api.Output{Hard: hard})
	want(t, "Commit", c.View().Commit, 4)
}

// P11.4: without Ok it goes back to the hint, but neither forth nor below what the node has.
func TestSayHint(t *testing.T) {
	c := leader(t, begin(three, api.Hard{Term: 3}, 1, 2, 2, 3))
	own := noop(4, 5)
	log := append(rowOf(1, 1, 2, 2, 3), own)
	hard := api.Hard{Term: 4, Vote: 1}
	terms := []int{0, 1, 2, 2, 3, 4}
	for _, x := range []struct{ hint, next int }{{api.MaxNum, 5}, {6, 5}, {4, 4}, {5, 4}, {2, 2}, {4, 2}, {1, 1}, {0, 1}} {
		want(t, "a hint", no(c, 2, x.hint, 0), api.Output{Hard: hard, Msgs: []api.Msg{sent(2, 4, x.next-1, terms[x.next-1], 0, 0, log[x.next-1:]...)}})
	}
	says(c, 2, 3, 0)
	want(t, "not below what it has", no(c, 2, 1, 0).Msgs, []api.Msg{sent(2, 4, 3, 2, 0, 0, log[3:]...)})
	want(t, "another node", no(c, 3, 4, 0).Msgs, []api.Msg{sent(3, 4, 3, 2, 0, 0, log[3:]...)})
	want(t, "nothing is committed", c.View().Commit, 0)
	says(c, 2, 5, 0)
	want(t, "with all that there is", no(c, 2, 1, 0).Msgs, []api.Msg{sent(2, 4, 5, 4, 5, 0)})
}

// P11.4: a message has MaxBatch entries at most; with Ok the next ones go.
func TestSayBatches(t *testing.T) {
	c := proposed(t, three, 20)
	want(t, "the first ones", no(c, 2, 1, 0).Msgs, []api.Msg{sent(2, 1, 0, 0, 0, 0, logUpTo(1, 8)...)})
	want(t, "the next ones", says(c, 2, 8, 0).Msgs, []api.Msg{sent(2, 1, 8, 1, 8, 0, logUpTo(9, 16)...)})
	want(t, "the last ones", says(c, 2, 16, 0).Msgs, []api.Msg{sent(2, 1, 16, 1, 16, 0, logUpTo(17, 21)...)})
	want(t, "just a batch", says(c, 3, 13, 0).Msgs, []api.Msg{sent(3, 1, 13, 1, 16, 0, logUpTo(14, 21)...)})
	want(t, "one more", says(c, 3, 12, 0).Msgs, []api.Msg{sent(3, 1, 13, 1, 16, 0, logUpTo(14, 21)...)})
}

// P11.4: who is behind the snapshot is sent it; then what comes behind it.
func TestSayInstalls(t *testing.T) {
	c := proposed(t, three, 4)
	says(c, 2, 4, 0)
	b := snapOf(t, 3, 1, three)
	want(t, "Compact", c.Compact(3, b), api.OK)
	install := api.Msg{Kind: api.Install, From: 1, To: 3, Term: 1, Index: 3, LogTerm: 1, Commit: 4, Round: 1, Data: b}
	o := c.Read(1)
	want(t, "to all", o.Msgs, []api.Msg{sent(2, 1, 4, 1, 4, 1, entry(1, 5)), install})
	want(t, "a hint above Base", no(c, 3, 4, 0).Msgs, []api.Msg{install})
	want(t, "a hint at Base", no(c, 3, 3, 0).Msgs, []api.Msg{install})
	o = says(c, 3, 3, 0)
	want(t, "behind it", o.Msgs, []api.Msg{sent(3, 1, 3, 1, 4, 1, entry(1, 4), entry(1, 5))})
	want(t, "a hint of what it has", no(c, 3, 1, 0).Msgs, []api.Msg{sent(3, 1, 3, 1, 4, 1, entry(1, 4), entry(1, 5))})
	spoilBytes(b)
	f := leader(t, based(t, three, api.Hard{Term: 2}, api.Mark{Index: 5, Term: 2}, 2))
	want(t, "to one that has Base", no(f, 2, 6, 0).Msgs, []api.Msg{sent(2, 3, 5, 2, 5, 0, entry(2, 6), noop(3, 7))})
	install = api.Msg{Kind: api.Install, From: 1, To: 2, Term: 3, Index: 5, LogTerm: 2, Commit: 5, Data: snapOf(t, 5, 2, three)}
	want(t, "to one that has it not", no(f, 2, 5, 0).Msgs, []api.Msg{install})
}

// P11.4: Say of one that is no member, to one that leads not, or of another term: nothing.
func TestSayOutOfPlace(t *testing.T) {
	for name, c := range roles(t) {
		for _, from := range []int{2, 4, 9} {
			for _, ok := range []bool{false, true} {
				if name == "a leader" && from == 2 {
					continue
				}
				before := probed(c, 1)
				want(t, name, c.Take(api.Msg{Kind: api.Say, From: from, To: 1, Term: 3, Index: 2, Ok: ok, Round: 1}, 0), api.Output{Hard: c.View().Hard})
				if probed(c, 1) != before {
					t.Errorf("%s: something has changed", name)
				}
			}
		}
	}
}

// P11.3, P11.4, P11.9: reads pass with more than half of the rounds, in order.
func TestReads(t *testing.T) {
	c := proposed(t, five, 2)
	says(c, 2, 2, 0)
	says(c, 3, 2, 0)
	want(t, "Commit", c.View().Commit, 2)
	asked := c.Read(7)
	for i, n := range []int{2, 3, 4, 5} {
		want(t, "a round", []int{asked.Msgs[i].To, asked.Msgs[i].Round, asked.Msgs[i].Commit}, []int{n, 1, 2})
	}
	want(t, "four are sent to, and it waits", []int{len(asked.Msgs), len(asked.Reads)}, []int{4, 0})
	says(c, 4, 3, 0)
	says(c, 3, 3, 0)
	want(t, "Commit", c.View().Commit, 3)
	want(t, "the next round", c.Read(-3).Msgs[0].Round, 2)
	want(t, "the third round", c.Read(7).Msgs[0].Round, 3)
	none := func(what string, o api.Output) {
		t.Helper()
		want(t, what, o.Reads, []api.Read{})
	}
	none("an elder round", says(c, 2, 3, 0))
	none("a round that is too great", says(c, 2, 3, 4))
	none("a great one", says(c, 3, 3, api.MaxNum))
	none("the first voice", says(c, 2, 3, 1))
	none("the same voice", says(c, 2, 3, 2))
	none("a stranger's", says(c, 6, 3, 3))
	want(t, "the second voice", says(c, 3, 3, 1).Reads, []api.Read{{Tag: 7, Index: 2}})
	none("a round that falls", says(c, 2, 3, 1))
	want(t, "without Ok too, two at once, the first one first", []any{no(c, 4, 1, 3).Reads, says(c, 5, 3, 3).Reads}, []any{[]api.Read{{Tag: -3, Index: 3}}, []api.Read{{Tag: 7, Index: 3}}})
	none("none waits", says(c, 2, 3, 3))
}

// P11.4: a round that was said once stays said, though an elder one comes in late.
func TestRoundsDoNotFall(t *testing.T) {
	c := proposed(t, five, 0)
	says(c, 2, 1, 0)
	says(c, 3, 1, 0)
	c.Read(1)
	c.Read(2)
	says(c, 2, 1, 2)
	says(c, 2, 1, 1)
	want(t, "both", says(c, 3, 1, 2).Reads, []api.Read{{Tag: 1, Index: 1}, {Tag: 2, Index: 1}})
}

// P11.3: one voter alone: a read passes at once, and nothing is sent, to learners neither.
func TestReadAlone(t *testing.T) {
	c := leader(t, begin(api.Members{Voters: []int{1}, Learners: []int{2}}, api.Hard{}))
	for tag := range 2 * api.MaxReads {
		want(t, "Read", c.Read(tag), api.Output{Hard: first, Reads: []api.Read{{Tag: tag, Index: 1}}})
	}
}

// P11.2: who follows again has no reads that wait, and a leader begins with round 0.
func TestReadsAreGone(t *testing.T) {
	c := proposed(t, three, 0)
	says(c, 2, 1, 0)
	c.Read(1)
	c.Read(2)
	c.Take(api.Msg{Kind: api.Append, From: 2, To: 1, Term: 2}, 0)
	c = again(t, c)
	says(c, 2, 2, 0)
	want(t, "a round of another term", says(c, 3, 2, 2).Reads, []api.Read{})
	want(t, "the first round", c.Read(3).Msgs[0].Round, 1)
	want(t, "the new one alone", says(c, 2, 2, 1).Reads, []api.Read{{Tag: 3, Index: 2}})
}

// P11.4: what a leader knew of others is gone when it leads again.
func TestLeadingBeginsAnew(t *testing.T) {
	c := proposed(t, three, 3)
	says(c, 2, 4, 0)
	no(c, 3, 2, 0)
	c.Take(api.Msg{Kind: api.SayVote, From: 3, To: 1, Term: 5}, 0)
	want(t, "it follows", c.View(), api.View{Hard: api.Hard{Term: 5}, Last: 4, Commit: 4, Members: three})
	c = again(t, c)
	c.Propose(entry(6, 6).Data)
	want(t, "nobody has said anything", c.View().Commit, 4)
	c.Tick(0)
	c.Tick(0)
	fresh := []api.Entry{noop(6, 5), entry(6, 6)}
	want(t, "NEXT", c.Tick(0).Msgs, []api.Msg{sent(2, 6, 4, 1, 4, 0, fresh...), sent(3, 6, 4, 1, 4, 0, fresh...)})
}

// P11.4: a leader that is no voter any more leads until that is committed, then follows; it counts not for itself.
func TestLeaderNoVoter(t *testing.T) {
	for _, x := range []struct {
		do  api.Do
		all []int
		m   api.Members
	}{
		{api.Remove, []int{2, 3}, voters(2, 3)},
		{api.Demote, []int{2, 3}, api.Members{Voters: []int{2, 3}, Learners: []int{1}}},
	} {
		c := proposed(t, three, 0)
		says(c, 2, 1, 0)
		o := c.Change(api.Change{Do: x.do, Node: 1})
		want(t, "Change", []int{o.Index, o.Msgs[0].To, o.Msgs[1].To, len(o.Msgs)}, []int{2, 2, 3, 2})
		want(t, "it leads still", c.View(), api.View{Role: api.Leader, Leader: 1, Hard: first, Last: 2, Commit: 1, Members: x.m})
		want(t, "Propose", c.Propose(nil).Index, 3)
		c.Read(5)
		want(t, "of two voters one", says(c, 2, 2, 1), api.Output{Hard: first, Msgs: []api.Msg{sent(2, 1, 2, 1, 1, 1, api.Entry{Kind: api.Data, Term: 1, Index: 3})}})
		want(t, "it leads still", c.View().Role, api.Leader)
		want(t, "of two voters both: it follows, sends nothing and lets no read pass", says(c, 3, 2, 1), api.Output{Hard: first})
		want(t, "it follows", c.View(), api.View{Hard: first, Last: 3, Commit: 2, Members: x.m})
		for range 3 * api.Quiet {
			want(t, "it asks not", c.Tick(0), api.Output{Hard: first})
		}
	}
}

// P11.4: a leader that is no voter counts not among those that let a read pass.
func TestReadOfNoVoter(t *testing.T) {
	c := proposed(t, three, 0)
	says(c, 2, 1, 0)
	c.Change(api.Change{Do: api.Remove, Node: 1})
	c.Read(5)
	want(t, "one of two", says(c, 2, 1, 1).Reads, []api.Read{})
	want(t, "both", says(c, 3, 1, 1).Reads, []api.Read{{Tag: 5, Index: 1}})
}

// P11.3: the round of all that is sent is ROUND, and a beat has it too.
func TestRoundOfBeats(t *testing.T) {
	c := proposed(t, three, 0)
	says(c, 2, 1, 0)
	c.Read(1)
	c.Read(2)
	c.Tick(0)
	c.Tick(0)
	rounds := func(o api.Output) []int {
		var l []int
		for _, m := range o.Msgs {
			l = append(l, m.Round)
		}
		return l
	}
	want(t, "a beat", rounds(c.Tick(0)), []int{2, 2})
	want(t, "a proposal", rounds(c.Propose(nil)), []int{2, 2})
	want(t, "an answer", rounds(no(c, 3, 1, 0)), []int{2})
	if !slices.Equal(rounds(c.Read(3)), []int{3, 3}) {
		t.Error("a read has not its own round")
	}
}
