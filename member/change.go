package member

import "tollgate/api"

// kind is what a node is among members.
type kind int

const (
	none kind = iota
	voter
	learner
)

// Apply is what a change makes of members.
func Apply(m api.Members, c api.Change) (api.Members, api.Errno) {
	if !Right(m) || !changeMayBe(c) {
		return api.Members{}, api.ErrArg
	}
	is := kinds(m)
	becomes, e := turned(is[c.Node], c.Do, len(m.Voters))
	if e != api.OK {
		return api.Members{}, e
	}
	is[c.Node] = becomes
	return api.Members{
		Voters:   numbers(func(n int) bool { return is[n] == voter }),
		Learners: numbers(func(n int) bool { return is[n] == learner }),
	}, api.OK
}

func changeMayBe(c api.Change) bool {
	return within(int(c.Do), int(api.Add), int(api.Remove)) && within(c.Node, 1, api.MaxNode)
}

// turned is what a change makes of a node's kind, among so many voters.
func turned(was kind, do api.Do, voters int) (kind, api.Errno) {
	switch {
	case do == api.Add && was != none:
		return none, api.ErrKnown
	case do == api.Add:
		return learner, api.OK
	case was == none, do == api.Promote && was == voter, do == api.Demote && was == learner:
		return none, api.ErrGone
	case do == api.Promote:
		return voter, api.OK
	case was == voter && voters == 1:
		return none, api.ErrLimit
	case do == api.Demote:
		return learner, api.OK
	}
	return none, api.OK
}

func kinds(m api.Members) map[int]kind {
	is := map[int]kind{}
	for _, n := range m.Voters {
		is[n] = voter
	}
	for _, n := range m.Learners {
		is[n] = learner
	}
	return is
}

// numbers are those that a function picks; they rise, since each node is asked for in its turn.
func numbers(picks func(n int) bool) []int {
	var l []int
	for n := 1; n <= api.MaxNode; n++ {
		if picks(n) {
			l = append(l, n)
		}
	}
	return l
}
