package wal

import "tollgate/api"

// content is what a log's records say, one behind the other.
type content struct {
	base    api.Mark
	hard    api.Hard
	entries []api.Entry // those of the indices behind base, none left out
}

func (c *content) last() int { return c.base.Index + len(c.entries) }

func (c *content) term(index int) (int, bool) {
	if index == c.base.Index {
		return c.base.Term, true
	}
	if index < c.base.Index || index > c.last() {
		return 0, false
	}
	return c.entries[index-c.base.Index-1].Term, true
}

// fits: may an entry of that index be added?
func (c *content) fits(index int) bool { return index > c.base.Index && index <= c.last()+1 }

// fitAll: may these, whose indices are numbers, be added one behind the other?
func (c *content) fitAll(es []api.Entry) bool {
	for i, x := range es {
		if i == 0 && !c.fits(x.Index) || i > 0 && x.Index != es[i-1].Index+1 {
			return false
		}
	}
	return true
}

// add adds an entry that fits; what stood from its index on goes.
func (c *content) add(x api.Entry) {
	c.entries = append(c.entries[:x.Index-c.base.Index-1], x)
}
