package member_test

import (
	"math"
	"slices"
	"testing"

	"tollgate/api"
	"tollgate/member"
)

var (
	wrongNodes = []int{math.MinInt, -1, 0, api.MaxNode + 1, 256 + 1, math.MaxInt}
	everyNode  = []int{1, 2, 3, 4, 5, 6, 7, 8, 9}
)

var wrongMembers = []struct {
	what string
	m    api.Members
}{
	{"nobody", api.Members{}},
	{"nobody, empty lists", api.Members{Voters: []int{}, Learners: []int{}}},
	{"learners alone", api.Members{Learners: []int{1, 2}}},
	{"a voter twice", api.Members{Voters: []int{1, 1}}},
	{"voters fall", api.Members{Voters: []int{2, 1}}},
	{"voters fall at the end", api.Members{Voters: []int{1, 3, 2}}},
	{"a learner twice", api.Members{Voters: []int{1}, Learners: []int{2, 2}}},
	{"learners fall", api.Members{Voters: []int{1}, Learners: []int{3, 2}}},
	{"one is both", api.Members{Voters: []int{1, 2}, Learners: []int{2}}},
	{"the last one is both", api.Members{Voters: []int{1, 9}, Learners: []int{2, 9}}},
	{"voter 0", api.Members{Voters: []int{0, 1}}},
	{"voter below 0", api.Members{Voters: []int{-1, 1}}},
	{"voter above MaxNode", api.Members{Voters: []int{1, api.MaxNode + 1}}},
	{"learner 0", api.Members{Voters: []int{1}, Learners: []int{0}}},
	{"learner below 0", api.Members{Voters: []int{1}, Learners: []int{math.MinInt, 2}}},
	{"learner above MaxNode", api.Members{Voters: []int{1}, Learners: []int{2, api.MaxNode + 1}}},
	{"a number that goes round", api.Members{Voters: []int{math.MaxInt, math.MinInt}}},
}

// everyMembers are all that may be of nodes 1 to most.
func everyMembers(most int) []api.Members {
	all := []api.Members{{}}
	for n := 1; n <= most; n++ {
		for _, m := range all {
			votes := api.Members{Voters: append(slices.Clone(m.Voters), n), Learners: slices.Clone(m.Learners)}
			learns := api.Members{Voters: slices.Clone(m.Voters), Learners: append(slices.Clone(m.Learners), n)}
			all = append(all, votes, learns)
		}
	}
	return slices.DeleteFunc(all, func(m api.Members) bool { return len(m.Voters) == 0 })
}

// everyGroup is all groups of nodes 1 to most.
func everyGroup(most int) [][]int {
	all := [][]int{nil}
	for n := 1; n <= most; n++ {
		for _, l := range all {
			all = append(all, append(slices.Clone(l), n))
		}
	}
	return all
}

func same(a, b api.Members) bool {
	return slices.Equal(a.Voters, b.Voters) && slices.Equal(a.Learners, b.Learners)
}

// P3.1
func TestRight(t *testing.T) {
	all := append(everyMembers(5),
		api.Members{Voters: []int{1}, Learners: []int{}},
		api.Members{Voters: []int{api.MaxNode}},
		api.Members{Voters: []int{1}, Learners: []int{api.MaxNode}},
		api.Members{Voters: everyNode},
		api.Members{Voters: []int{5}, Learners: []int{1, 2, 3, 4, 6, 7, 8, 9}},
	)
	for _, m := range all {
		if !member.Right(m) {
			t.Errorf("not right: %v", m)
		}
	}
	for _, w := range wrongMembers {
		if member.Right(w.m) {
			t.Errorf("right: %s", w.what)
		}
	}
}

// P3.1
func TestWrongMembersHaveNothing(t *testing.T) {
	places := []api.At{{Node: 1, Index: 5}, {Node: 2, Index: 5}, {Node: 3, Index: 5}, {Node: 9, Index: 5}}
	for _, w := range wrongMembers {
		for _, n := range append(slices.Clone(everyNode), wrongNodes...) {
			if member.Voter(w.m, n) {
				t.Errorf("%s: %d is a voter", w.what, n)
			}
		}
		if l := member.All(w.m); len(l) != 0 {
			t.Errorf("%s: all are %v", w.what, l)
		}
		if member.Quorum(w.m, everyNode) || member.Quorum(w.m, nil) {
			t.Errorf("%s: a quorum", w.what)
		}
		if i := member.Agreed(w.m, places); i != 0 {
			t.Errorf("%s: agreed on %d", w.what, i)
		}
	}
}

// P3.1
func TestVoterAndAll(t *testing.T) {
	for _, m := range everyMembers(5) {
		var all []int
		for _, n := range everyNode {
			votes := slices.Contains(m.Voters, n)
			if member.Voter(m, n) != votes {
				t.Errorf("Voter(%v, %d) is not %v", m, n, votes)
			}
			if votes || slices.Contains(m.Learners, n) {
				all = append(all, n)
			}
		}
		for _, n := range wrongNodes {
			if member.Voter(m, n) {
				t.Errorf("Voter(%v, %d)", m, n)
			}
		}
		if l := member.All(m); !slices.Equal(l, all) {
			t.Errorf("All(%v): %v", m, l)
		}
	}
	m := api.Members{Voters: []int{5, 9}, Learners: []int{1, 6}}
	if l := member.All(m); !slices.Equal(l, []int{1, 5, 6, 9}) {
		t.Errorf("All(%v): %v", m, l)
	}
}

// P3.2
func TestQuorum(t *testing.T) {
	for count := 1; count <= api.MaxNode; count++ {
		m := api.Members{Voters: everyNode[:count], Learners: everyNode[count:]}
		for _, yes := range everyGroup(api.MaxNode) {
			votes := 0
			for _, n := range yes {
				if n <= count {
					votes++
				}
			}
			if member.Quorum(m, yes) != (2*votes > count) {
				t.Fatalf("Quorum of %d voters, %v, is not %v", count, yes, 2*votes > count)
			}
		}
	}
}

// P3.2
func TestQuorumOfAnyOrder(t *testing.T) {
	three := api.Members{Voters: []int{1, 2, 3}, Learners: []int{4, 5}}
	for _, c := range []struct {
		yes    []int
		enough bool
	}{
		{nil, false}, {[]int{}, false}, {[]int{1, 3}, true}, {[]int{3, 1}, true}, {[]int{1, 4}, false}, {[]int{1}, false},
		{[]int{1, 1, 1}, false}, {[]int{4, 5, 4, 5, 2}, false}, {[]int{3, 3, 2}, true}, {[]int{2, 9, 3, 2, 1}, true},
		{append(slices.Clone(wrongNodes), 1), false}, {append(slices.Clone(wrongNodes), 2, 1), true},
	} {
		if member.Quorum(three, c.yes) != c.enough {
			t.Errorf("Quorum of voters 1 2 3, %v, is not %v", c.yes, c.enough)
		}
	}
}

// P3.2
func TestAgreed(t *testing.T) {
	three := api.Members{Voters: []int{1, 2, 3}, Learners: []int{4}}
	two := api.Members{Voters: []int{1, 2}}
	one := api.Members{Voters: []int{9}, Learners: []int{1}}
	four := api.Members{Voters: []int{2, 4, 6, 8}}
	for _, c := range []struct {
		m      api.Members
		l      []api.At
		agreed int
	}{
		{three, []api.At{{Node: 1, Index: 5}, {Node: 2, Index: 7}}, 5},
		{three, []api.At{{Node: 2, Index: 7}, {Node: 3, Index: 9}, {Node: 1, Index: 5}}, 7},
		{three, []api.At{{Node: 1, Index: 5}}, 0},
		{three, []api.At{{Node: 1, Index: 5}, {Node: 4, Index: 7}}, 0},
		{three, []api.At{{Node: 1, Index: 5}, {Node: 2, Index: -7}, {Node: 2, Index: 7}}, 0},
		{three, []api.At{{Node: 1, Index: 5}, {Node: 2, Index: 4}, {Node: 2, Index: 7}, {Node: 1, Index: 1}}, 4},
		{three, []api.At{{Node: 1, Index: math.MaxInt}, {Node: 2, Index: math.MaxInt}, {Node: 3, Index: math.MinInt}}, math.MaxInt},
		{three, []api.At{{Node: 1, Index: math.MinInt}, {Node: 2, Index: -1}, {Node: 3, Index: -2}}, 0},
		{three, []api.At{{Node: 0, Index: 5}, {Node: -1, Index: 5}, {Node: 10, Index: 5}, {Node: math.MaxInt, Index: 5}}, 0},
		{three, nil, 0},
		{three, []api.At{}, 0},
		{two, []api.At{{Node: 1, Index: 5}, {Node: 2, Index: 7}}, 5},
		{two, []api.At{{Node: 2, Index: 7}}, 0},
		{one, []api.At{{Node: 1, Index: 5}, {Node: 9, Index: 3}}, 3},
		{four, []api.At{{Node: 2, Index: 4}, {Node: 4, Index: 3}, {Node: 6, Index: 2}, {Node: 8, Index: 1}}, 2},
		{four, []api.At{{Node: 2, Index: 4}, {Node: 4, Index: 4}}, 0},
	} {
		if i := member.Agreed(c.m, c.l); i != c.agreed {
			t.Errorf("Agreed(%v, %v): %d; want %d", c.m, c.l, i, c.agreed)
		}
	}
}

// P3.7
func TestAgreedIsTheGreatestOfAQuorum(t *testing.T) {
	for _, m := range everyMembers(4) {
		for code := range 5 * 5 * 5 * 5 {
			var l []api.At
			for n, rest := 1, code; n <= 4; n, rest = n+1, rest/5 {
				l = append(l, api.At{Node: 5 - n, Index: rest%5 - 1})
			}
			at := member.Agreed(m, l)
			if at < 0 || at > 0 && !member.Quorum(m, reaching(l, at)) {
				t.Fatalf("Agreed(%v, %v): %d, which no quorum has reached", m, l, at)
			}
			for more := at + 1; more <= 4; more++ {
				if member.Quorum(m, reaching(l, more)) {
					t.Fatalf("Agreed(%v, %v): %d, though a quorum has reached %d", m, l, at, more)
				}
			}
		}
	}
}

func reaching(l []api.At, index int) []int {
	var nodes []int
	for _, at := range l {
		if at.Index >= index {
			nodes = append(nodes, at.Node)
		}
	}
	return nodes
}

// P3.5: two quorums of one membership, and of one and what a change makes of it.
func TestQuorumsMeet(t *testing.T) {
	groups := everyGroup(5)
	for _, m := range everyMembers(5) {
		wantQuorumsMeet(t, groups, m, m)
		for do := api.Add; do <= api.Remove; do++ {
			for n := 1; n <= 5; n++ {
				if turned, e := member.Apply(m, api.Change{Do: do, Node: n}); e == api.OK {
					wantQuorumsMeet(t, groups, m, turned)
				}
			}
		}
	}
}

func wantQuorumsMeet(t *testing.T, groups [][]int, a, b api.Members) {
	t.Helper()
	for _, x := range groups {
		if !member.Quorum(a, x) {
			continue
		}
		for _, y := range groups {
			if member.Quorum(b, y) && !slices.ContainsFunc(x, func(n int) bool {
				return member.Voter(a, n) && member.Voter(b, n) && slices.Contains(y, n)
			}) {
				t.Fatalf("%v of %v and %v of %v have no voter in common", x, a, y, b)
			}
		}
	}
}

// P3.6
func TestQuorumWithMore(t *testing.T) {
	for _, m := range everyMembers(5) {
		for _, yes := range everyGroup(5) {
			if !member.Quorum(m, yes) {
				continue
			}
			for _, n := range append(slices.Clone(everyNode), wrongNodes...) {
				if !member.Quorum(m, append(slices.Clone(yes), n)) || !member.Quorum(m, append([]int{n}, yes...)) {
					t.Fatalf("%v is a quorum of %v, and none with %d", yes, m, n)
				}
			}
		}
	}
}
