package raft_test

import (
	"fmt"
	"strings"
	"testing"

	"tollgate/api"
	"tollgate/member"
	"tollgate/raft"
	"tollgate/snap"
)

// chance is a row of numbers that is the same each time.
type chance uint64

func (c *chance) below(n int) int {
	*c = *c*6364136223846793005 + 1442695040888963407
	return int(uint64(*c) >> 33 % uint64(n))
}

// oneOf is true once in so many times.
func (c *chance) oneOf(n int) bool { return c.below(n) == 0 }

// shown tells a list that is nil as one that is empty.
func shown(x any) string { return fmt.Sprintf("%+v", x) }

func want(t *testing.T, what string, got, want any) {
	t.Helper()
	if shown(got) != shown(want) {
		t.Errorf("%s:\n%s\nwant\n%s", what, shown(got), shown(want))
	}
}

func voters(n ...int) api.Members { return api.Members{Voters: n} }

// entry is one of kind Data, with bytes that tell its place.
func entry(term, index int) api.Entry {
	return api.Entry{Kind: api.Data, Term: term, Index: index, Data: fmt.Appendf(nil, "%d.%d", term, index)}
}

// rowOf are entries of these terms, from an index on.
func rowOf(from int, terms ...int) []api.Entry {
	var l []api.Entry
	for i, term := range terms {
		l = append(l, entry(term, from+i))
	}
	return l
}

func noop(term, index int) api.Entry { return api.Entry{Kind: api.Noop, Term: term, Index: index} }

func turn(t *testing.T, term, index int, do api.Do, node int) api.Entry {
	t.Helper()
	b, e := member.PutChange(api.Change{Do: do, Node: node})
	if e != api.OK {
		t.Fatal("no change")
	}
	return api.Entry{Kind: api.Turn, Term: term, Index: index, Data: b}
}

func snapOf(t *testing.T, index, term int, m api.Members) []byte {
	t.Helper()
	b, e := snap.Put(api.Snap{Mark: api.Mark{Index: index, Term: term}, Members: m, Data: fmt.Appendf(nil, "up to %d", index)})
	if e != api.OK {
		t.Fatal("no snapshot")
	}
	return b
}

// begin is what core 1 begins with: its term, and entries of these terms from index 1 on.
func begin(m api.Members, hard api.Hard, terms ...int) api.Begin {
	return api.Begin{Id: 1, Members: m, Hard: hard, Entries: rowOf(1, terms...)}
}

// based is what core 1 begins with behind a snapshot.
func based(t *testing.T, m api.Members, hard api.Hard, base api.Mark, terms ...int) api.Begin {
	t.Helper()
	return api.Begin{Id: 1, Members: m, Hard: hard, Base: base, Snap: snapOf(t, base.Index, base.Term, m), Entries: rowOf(base.Index+1, terms...)}
}

func core(t *testing.T, s api.Begin) *raft.Core {
	t.Helper()
	c, e := raft.New(s)
	if c == nil || e != api.OK {
		t.Fatalf("New of %s: error %d", shown(s), e)
	}
	return c
}

// asker is a core whose time has run out; of one voter it leads already.
func asker(t *testing.T, s api.Begin) *raft.Core {
	t.Helper()
	s.Draw = 0
	c := core(t, s)
	for range api.Quiet {
		c.Tick(0)
	}
	if v := c.View(); v.Role == api.Follower {
		t.Fatalf("it asks not: %s", shown(v))
	}
	return c
}

// candidate is an asker to which all others said yes.
func candidate(t *testing.T, s api.Begin) *raft.Core {
	t.Helper()
	c := asker(t, s)
	for _, n := range c.View().Members.Voters {
		if v := c.View(); n != s.Id && v.Role == api.Asker {
			c.Take(api.Msg{Kind: api.SayPre, From: n, To: s.Id, Term: v.Hard.Term + 1, Ok: true}, 0)
		}
	}
	if v := c.View(); v.Role != api.Candidate {
		t.Fatalf("it stands not: %s", shown(v))
	}
	return c
}

// leader is a candidate for which others voted, as many as it takes; nobody has said anything to it yet.
func leader(t *testing.T, s api.Begin) *raft.Core {
	t.Helper()
	c := asker(t, s)
	if c.View().Role == api.Asker {
		c = candidate(t, s)
	}
	for _, n := range c.View().Members.Voters {
		if v := c.View(); n != s.Id && v.Role == api.Candidate {
			c.Take(api.Msg{Kind: api.SayVote, From: n, To: s.Id, Term: v.Hard.Term, Ok: true}, 0)
		}
	}
	if v := c.View(); v.Role != api.Leader {
		t.Fatalf("it leads not: %s", shown(v))
	}
	return c
}

// says is a Say to core 1.
func says(c *raft.Core, from, index, round int) api.Output {
	return c.Take(api.Msg{Kind: api.Say, From: from, To: 1, Term: c.View().Hard.Term, Index: index, Round: round, Ok: true}, 0)
}

// all is the whole log.
func all(c *raft.Core) []api.Entry { return c.Entries(0, api.MaxNum*2) }

// probed is all that can be seen of a core, by calls of forks of it: its counts of ticks, what it was promised and what it knows of others come out by what it answers later.
func probed(c *raft.Core, id int) string {
	var b strings.Builder
	tell := func(x any) { b.WriteString(shown(x) + "\n") }
	v := c.View()
	tell(v)
	tell(all(c))
	tick := c.Fork()
	for range 2*api.Quiet + 1 {
		tell(tick.Tick(3))
	}
	for n := 1; n <= api.MaxNode; n++ {
		if n == id {
			continue
		}
		ask := api.Msg{From: n, To: id, Term: v.Hard.Term + 1, Index: v.Last + 9, LogTerm: v.Hard.Term + 1}
		for _, k := range []api.MsgKind{api.AskPre, api.AskVote} {
			ask.Kind = k
			tell(c.Fork().Take(ask, 0))
			ask.Term = v.Hard.Term
		}
		yes := c.Fork()
		tell(yes.Take(api.Msg{Kind: api.SayPre, From: n, To: id, Term: v.Hard.Term + 1, Ok: true}, 0))
		tell(yes.Take(api.Msg{Kind: api.SayVote, From: n, To: id, Term: v.Hard.Term, Ok: true}, 0))
		say := c.Fork()
		tell(say.Take(api.Msg{Kind: api.Say, From: n, To: id, Term: v.Hard.Term, Round: 1}, 0))
		for round := range 2 * api.MaxReads {
			tell(say.Take(api.Msg{Kind: api.Say, From: n, To: id, Term: v.Hard.Term, Round: round, Index: v.Last, Ok: true}, 0))
		}
	}
	read := c.Fork()
	for range api.MaxReads {
		tell(read.Read(77))
	}
	tell(c.Fork().Propose([]byte("p")))
	for n := 1; n <= api.MaxNode; n++ {
		for do := api.Add; do <= api.Remove; do++ {
			tell(c.Fork().Change(api.Change{Do: do, Node: n}))
		}
	}
	return b.String()
}

// wantOnly: of core 1 that error, its Hard (P11.2) and nothing else, and nothing has changed.
func wantOnly(t *testing.T, what string, c *raft.Core, e api.Errno, do func() api.Output) {
	t.Helper()
	before := probed(c, 1)
	hard := c.View().Hard
	want(t, what, do(), api.Output{E: e, Hard: hard})
	if probed(c, 1) != before {
		t.Errorf("%s: refused, and yet something has changed", what)
	}
}
