package member

import (
	"tollgate/api"
	"tollgate/wire"
)

// Put is members' bytes.
func Put(m api.Members) ([]byte, api.Errno) {
	if !Right(m) {
		return nil, api.ErrArg
	}
	return addList(addList(nil, m.Voters), m.Learners), api.OK
}

func addList(b []byte, l []int) []byte {
	b = addNumber(b, len(l))
	for _, n := range l {
		b = addNumber(b, n)
	}
	return b
}

// addNumber has no error to tell: all numbers here are those of nodes, of changes, or how many there are.
func addNumber(b []byte, n int) []byte {
	x, _ := wire.Number(n)
	return append(b, x...)
}

// Get is the members of bytes.
func Get(b []byte) (api.Members, api.Errno) {
	voters, at, e := takeList(b, 0)
	if e != api.OK {
		return api.Members{}, e
	}
	learners, at, e := takeList(b, at)
	if e != api.OK {
		return api.Members{}, e
	}
	m := api.Members{Voters: voters, Learners: learners}
	if at != len(b) || !Right(m) {
		return api.Members{}, api.ErrForm
	}
	return m, api.OK
}

// takeList reads how many numbers there are, and them; where the next byte stands.
func takeList(b []byte, at int) ([]int, int, api.Errno) {
	count, at, e := wire.TakeNumber(b, at)
	if e != api.OK {
		return nil, 0, e
	}
	if count > api.MaxNode {
		return nil, 0, api.ErrForm
	}
	return takeNumbers(b, at, count)
}

func takeNumbers(b []byte, at, count int) ([]int, int, api.Errno) {
	var l []int
	for range count {
		n, next, e := wire.TakeNumber(b, at)
		if e != api.OK {
			return nil, 0, e
		}
		l = append(l, n)
		at = next
	}
	return l, at, api.OK
}

// PutChange is a change's bytes.
func PutChange(c api.Change) ([]byte, api.Errno) {
	if !changeMayBe(c) {
		return nil, api.ErrArg
	}
	return addNumber(addNumber(nil, int(c.Do)), c.Node), api.OK
}

// GetChange is the change of bytes.
func GetChange(b []byte) (api.Change, api.Errno) {
	l, at, e := takeNumbers(b, 0, 2)
	if e != api.OK {
		return api.Change{}, e
	}
	c := api.Change{Do: api.Do(l[0]), Node: l[1]}
	if at != len(b) || !changeMayBe(c) {
		return api.Change{}, api.ErrForm
	}
	return c, api.OK
}
