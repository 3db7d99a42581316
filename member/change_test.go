package member_test

import (
	"math"
	"testing"

	"tollgate/api"
	"tollgate/member"
)

var wrongDos = []api.Do{math.MinInt, -1, api.NoDo, api.Remove + 1, 256 + 1, math.MaxInt}

func wantNoApply(t *testing.T, m api.Members, c api.Change, errno api.Errno) {
	t.Helper()
	if x, e := member.Apply(m, c); e != errno || len(x.Voters) != 0 || len(x.Learners) != 0 {
		t.Errorf("Apply(%v, %v): %v, error %d; want error %d", m, c, x, e, errno)
	}
}

// P3.3
func TestApply(t *testing.T) {
	m := api.Members{Voters: []int{2, 4}, Learners: []int{3, 6}}
	for _, c := range []struct {
		change api.Change
		made   api.Members
	}{
		{api.Change{Do: api.Add, Node: 1}, api.Members{Voters: []int{2, 4}, Learners: []int{1, 3, 6}}},
		{api.Change{Do: api.Add, Node: 5}, api.Members{Voters: []int{2, 4}, Learners: []int{3, 5, 6}}},
		{api.Change{Do: api.Add, Node: api.MaxNode}, api.Members{Voters: []int{2, 4}, Learners: []int{3, 6, 9}}},
		{api.Change{Do: api.Promote, Node: 3}, api.Members{Voters: []int{2, 3, 4}, Learners: []int{6}}},
		{api.Change{Do: api.Promote, Node: 6}, api.Members{Voters: []int{2, 4, 6}, Learners: []int{3}}},
		{api.Change{Do: api.Demote, Node: 2}, api.Members{Voters: []int{4}, Learners: []int{2, 3, 6}}},
		{api.Change{Do: api.Demote, Node: 4}, api.Members{Voters: []int{2}, Learners: []int{3, 4, 6}}},
		{api.Change{Do: api.Remove, Node: 2}, api.Members{Voters: []int{4}, Learners: []int{3, 6}}},
		{api.Change{Do: api.Remove, Node: 6}, api.Members{Voters: []int{2, 4}, Learners: []int{3}}},
	} {
		if x, e := member.Apply(m, c.change); e != api.OK || !same(x, c.made) {
			t.Errorf("Apply(%v, %v): %v, error %d; want %v", m, c.change, x, e, c.made)
		}
	}
}

// P3.3: the document's second example.
func TestApplyLeavesOneVoter(t *testing.T) {
	x, e := member.Apply(api.Members{Voters: []int{1, 2}}, api.Change{Do: api.Demote, Node: 2})
	if e != api.OK || !same(x, api.Members{Voters: []int{1}, Learners: []int{2}}) {
		t.Errorf("%v, error %d", x, e)
	}
}

// P3.3
func TestApplyErrors(t *testing.T) {
	m := api.Members{Voters: []int{2, 4}, Learners: []int{3}}
	for _, c := range []struct {
		do    api.Do
		node  int
		errno api.Errno
	}{
		{api.Add, 2, api.ErrKnown}, {api.Add, 4, api.ErrKnown}, {api.Add, 3, api.ErrKnown},
		{api.Promote, 2, api.ErrGone}, {api.Promote, 1, api.ErrGone}, {api.Promote, 9, api.ErrGone},
		{api.Demote, 3, api.ErrGone}, {api.Demote, 1, api.ErrGone}, {api.Demote, 9, api.ErrGone},
		{api.Remove, 1, api.ErrGone}, {api.Remove, 9, api.ErrGone},
	} {
		wantNoApply(t, m, api.Change{Do: c.do, Node: c.node}, c.errno)
	}
	one := api.Members{Voters: []int{2}, Learners: []int{3}}
	wantNoApply(t, one, api.Change{Do: api.Demote, Node: 2}, api.ErrLimit)
	wantNoApply(t, one, api.Change{Do: api.Remove, Node: 2}, api.ErrLimit)
	wantNoApply(t, one, api.Change{Do: api.Demote, Node: 3}, api.ErrGone)
	wantNoApply(t, one, api.Change{Do: api.Remove, Node: 4}, api.ErrGone)
	if x, e := member.Apply(one, api.Change{Do: api.Remove, Node: 3}); e != api.OK || !same(x, api.Members{Voters: []int{2}}) {
		t.Errorf("a learner beside the only voter: %v, error %d", x, e)
	}
}

// P3.3
func TestApplyWrongInputs(t *testing.T) {
	m := api.Members{Voters: []int{1}, Learners: []int{3}}
	for do := api.Add; do <= api.Remove; do++ {
		for _, n := range wrongNodes {
			wantNoApply(t, m, api.Change{Do: do, Node: n}, api.ErrArg)
		}
		for _, w := range wrongMembers {
			wantNoApply(t, w.m, api.Change{Do: do, Node: 1}, api.ErrArg)
			wantNoApply(t, w.m, api.Change{Do: do, Node: 5}, api.ErrArg)
		}
	}
	for _, do := range wrongDos {
		wantNoApply(t, m, api.Change{Do: do, Node: 1}, api.ErrArg)
		wantNoApply(t, m, api.Change{Do: do, Node: 2}, api.ErrArg)
	}
	wantNoApply(t, m, api.Change{}, api.ErrArg)
}

// P3.3, P3.8: what a change makes is right, and another change undoes it.
func TestChangesUndoEachOther(t *testing.T) {
	undo := map[api.Do]api.Do{api.Add: api.Remove, api.Promote: api.Demote, api.Demote: api.Promote}
	for _, m := range everyMembers(5) {
		for do := api.Add; do <= api.Remove; do++ {
			for n := 1; n <= 6; n++ {
				turned, e := member.Apply(m, api.Change{Do: do, Node: n})
				if e != api.OK {
					continue
				}
				if !member.Right(turned) || same(turned, m) {
					t.Fatalf("%v of %d makes %v of %v", do, n, turned, m)
				}
				back, known := undo[do]
				if !known { // Remove: a learner comes back by Add, a voter by Promote behind it
					back = api.Add
				}
				again, e := member.Apply(turned, api.Change{Do: back, Node: n})
				if e == api.OK && !known && member.Voter(m, n) {
					again, e = member.Apply(again, api.Change{Do: api.Promote, Node: n})
				}
				if e != api.OK || !same(again, m) {
					t.Fatalf("%v of %d in %v, undone: %v, error %d", do, n, m, again, e)
				}
			}
		}
	}
}
