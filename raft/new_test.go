package raft_test

import (
	"bytes"
	"math"
	"testing"

	"tollgate/api"
	"tollgate/raft"
)

var (
	two   = voters(1, 2)
	three = voters(1, 2, 3)
	five  = voters(1, 2, 3, 4, 5)
)

// rest is a draw's by Quiet, digit by digit of its 64 bits.
func rest(draw int) int {
	n := 0
	for bit := 63; bit >= 0; bit-- {
		n = (2*n + int(uint64(draw)>>bit&1)) % api.Quiet
	}
	return n
}

var draws = []int{0, 1, 5, 9, 10, 11, 19, 123456789, math.MaxInt, -1, -2, -9, -10, -11, math.MinInt}

// P11.1: what a new core is.
func TestNew(t *testing.T) {
	both := api.Members{Voters: []int{2, 3}, Learners: []int{1, 9}}
	for _, s := range []api.Begin{
		{Id: 1, Members: voters(1)},
		{Id: 9, Members: voters(9)},
		{Id: 5, Members: both},
		{Id: 1, Members: api.Members{Voters: []int{1}, Learners: []int{}}, Snap: []byte{}, Entries: []api.Entry{}},
		begin(three, api.Hard{Term: 7, Vote: 9}),
		begin(three, api.Hard{Term: api.MaxNum, Vote: 1}),
		begin(three, api.Hard{Term: 3}, 1, 1, 3),
		begin(three, api.Hard{Term: 4, Vote: 2}, 1, 1, 3),
		{Id: 2, Members: two, Hard: api.Hard{Term: 1}, Entries: []api.Entry{noop(1, 1)}},
		based(t, three, api.Hard{Term: 2}, api.Mark{Index: 5, Term: 2}),
		based(t, both, api.Hard{Term: 2, Vote: 3}, api.Mark{Index: 5, Term: 1}, 1, 2, 2),
		based(t, both, api.Hard{Term: api.MaxNum}, api.Mark{Index: api.MaxNum, Term: api.MaxNum}),
		based(t, both, api.Hard{Term: api.MaxNum}, api.Mark{Index: api.MaxNum - 2, Term: 1}, 1, api.MaxNum),
	} {
		c := core(t, s)
		want(t, "View", c.View(), api.View{Hard: s.Hard, Base: s.Base, Last: s.Base.Index + len(s.Entries), Commit: s.Base.Index, Members: s.Members})
		want(t, "Entries", all(c), s.Entries)
	}
}

// P11.1: as many entries as one likes, each with MaxData bytes.
func TestNewOfManyEntries(t *testing.T) {
	s := begin(three, api.Hard{Term: 1})
	for i := range 3 * api.MaxLog {
		s.Entries = append(s.Entries, api.Entry{Kind: api.Data, Term: 1, Index: i + 1, Data: bytes.Repeat([]byte{byte(i)}, api.MaxData)})
	}
	c := core(t, s)
	want(t, "Entries", all(c), s.Entries)
}

// P11.1: LIMIT by Draw.
func TestNewDraws(t *testing.T) {
	for _, draw := range draws {
		s := begin(three, api.Hard{})
		s.Draw = draw
		c := core(t, s)
		for i := range api.Quiet + rest(draw) - 1 {
			want(t, "a tick ahead of LIMIT", c.Tick(i), api.Output{})
		}
		if o := c.Tick(0); len(o.Msgs) != 2 || o.Msgs[0].Kind != api.AskPre {
			t.Errorf("draw %d: it asks not at its LIMIT: %s", draw, shown(o))
		}
	}
}

// P11.1: QUIET is Quiet: nobody has been heard.
func TestNewIsQuiet(t *testing.T) {
	c := core(t, begin(three, api.Hard{}))
	want(t, "AskPre", c.Take(api.Msg{Kind: api.AskPre, From: 2, To: 1, Term: 1}, 0).Msgs, []api.Msg{{Kind: api.SayPre, From: 1, To: 2, Term: 1, Ok: true}})
}

func wantNoCore(t *testing.T, what string, s api.Begin) {
	t.Helper()
	if c, e := raft.New(s); c != nil || e != api.ErrArg {
		t.Errorf("New of %s: %v, error %d", what, c, e)
	}
}

// P11.1: numbers and members that may not be.
func TestNewWrong(t *testing.T) {
	for _, id := range []int{0, -1, api.MaxNode + 1, math.MinInt, math.MaxInt} {
		s := begin(three, api.Hard{})
		s.Id = id
		wantNoCore(t, "an Id", s)
	}
	for _, m := range []api.Members{
		{}, {Learners: []int{1}}, voters(2, 1), voters(1, 1), voters(0, 1), voters(-1), voters(1, 10),
		{Voters: []int{1}, Learners: []int{1}}, {Voters: []int{1}, Learners: []int{3, 2}}, {Voters: []int{1}, Learners: []int{10}},
	} {
		wantNoCore(t, "members", begin(m, api.Hard{}))
	}
	for _, h := range []api.Hard{{Term: -1}, {Term: api.MaxNum + 1}, {Term: math.MaxInt}, {Term: math.MinInt}, {Vote: -1}, {Vote: 10}, {Vote: math.MaxInt}} {
		wantNoCore(t, "a Hard", begin(three, h))
	}
}

// P11.1: Base, and its snapshot.
func TestNewWrongBase(t *testing.T) {
	good := based(t, three, api.Hard{Term: 4}, api.Mark{Index: 5, Term: 4})
	for _, m := range []api.Mark{{Index: -1, Term: 1}, {Index: 1, Term: -1}, {Index: 1}, {Term: 1}, {Index: api.MaxNum + 1, Term: 1}, {Index: math.MaxInt, Term: 1}, {Index: 1, Term: api.MaxNum + 1}, {Index: math.MinInt, Term: math.MinInt}} {
		s := good
		s.Base = m
		wantNoCore(t, "a Base", s)
		s.Snap = nil
		wantNoCore(t, "a Base without a snapshot", s)
	}
	mark := func(index, term int) []byte { return snapOf(t, index, term, three) }
	for what, b := range map[string][]byte{
		"no snapshot":    nil,
		"empty":          {},
		"index below":    mark(4, 4),
		"index above":    mark(6, 4),
		"term below":     mark(5, 3),
		"term above":     mark(5, 5),
		"other voters":   snapOf(t, 5, 4, voters(1, 2)),
		"more voters":    snapOf(t, 5, 4, voters(1, 2, 3, 4)),
		"other learners": snapOf(t, 5, 4, api.Members{Voters: []int{1, 2, 3}, Learners: []int{4}}),
		"cut":            good.Snap[:len(good.Snap)-1],
		"longer":         append(bytes.Clone(good.Snap), 0),
		"garbage":        []byte("garbage"),
	} {
		s := good
		s.Snap = b
		wantNoCore(t, what, s)
	}
	s := good
	s.Base, s.Hard = api.Mark{}, api.Hard{Term: 4}
	wantNoCore(t, "a snapshot with Base 0", s)
	s.Snap = []byte{0}
	wantNoCore(t, "a byte with Base 0", s)
	s = good
	s.Hard.Term = 3
	wantNoCore(t, "Base's term above Hard's", s)
}

// P11.1: entries that are not right, do not go on, fall, or are above Hard's term.
func TestNewWrongEntries(t *testing.T) {
	hard := api.Hard{Term: 4}
	for what, l := range map[string][]api.Entry{
		"no kind":          {{Term: 1, Index: 1}},
		"another kind":     {{Kind: api.Turn + 1, Term: 1, Index: 1}},
		"a Noop with Data": {{Kind: api.Noop, Term: 1, Index: 1, Data: []byte{1}}},
		"too much Data":    {{Kind: api.Data, Term: 1, Index: 1, Data: make([]byte, api.MaxData+1)}},
		"no term":          {{Kind: api.Data, Index: 1}},
		"term below 0":     {{Kind: api.Data, Term: -1, Index: 1}},
		"from 0 on":        rowOf(0, 1),
		"from 2 on":        rowOf(2, 1),
		"doubled":          {entry(1, 1), entry(1, 1)},
		"a gap":            {entry(1, 1), entry(1, 3)},
		"backwards":        {entry(1, 2), entry(1, 1)},
		"terms fall":       rowOf(1, 1, 2, 1),
		"above Hard's":     rowOf(1, 1, 5),
	} {
		s := begin(three, hard)
		s.Entries = l
		wantNoCore(t, what, s)
	}
	base := api.Mark{Index: 5, Term: 3}
	for what, l := range map[string][]api.Entry{
		"Base's own index": rowOf(5, 3),
		"from 1 on":        rowOf(1, 3),
		"behind a gap":     rowOf(7, 3),
		"below Base's":     rowOf(6, 2),
		"above Hard's":     rowOf(6, 5),
	} {
		s := based(t, three, hard, base)
		s.Entries = l
		wantNoCore(t, what, s)
	}
	wantNoCore(t, "an index above MaxNum", based(t, three, hard, api.Mark{Index: api.MaxNum, Term: 1}, 1))
	core(t, based(t, three, hard, base, 3, 4, 4))
}

// P3: what New was handed is not kept.
func TestNewKeepsNothing(t *testing.T) {
	s := based(t, api.Members{Voters: []int{1, 2, 3}, Learners: []int{4}}, api.Hard{Term: 3}, api.Mark{Index: 5, Term: 2}, 2, 3)
	s.Members.Voters = append(make([]int, 0, 9), s.Members.Voters...)
	c := core(t, s)
	before := probed(c, 1)
	spoil(s.Entries)
	spoilBytes(s.Snap)
	clear(s.Members.Voters[:9])
	clear(s.Members.Learners)
	if probed(c, 1) != before {
		t.Error("a core keeps what New was handed")
	}
}
