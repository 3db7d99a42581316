package wal

import (
	"tollgate/api"
	"tollgate/frame"
	"tollgate/wire"
)

// What a record's first byte tells.
const (
	ofMark  = 1
	ofHard  = 2
	ofEntry = 3
)

// framed is a record's bytes in its file. Even the longest entry's record is far below MaxFrame: a frame is never refused.
func framed(kind byte, body []byte) []byte {
	f, _ := frame.Frame(append([]byte{kind}, body...))
	return f
}

// markRecord is of a mark whose numbers are right.
func markRecord(m api.Mark) []byte {
	index, _ := wire.Number(m.Index)
	term, _ := wire.Number(m.Term)
	return framed(ofMark, append(index, term...))
}

func hardRecord(h api.Hard) ([]byte, api.Errno) {
	b, e := wire.PutHard(h)
	if e != api.OK {
		return nil, e
	}
	return framed(ofHard, b), api.OK
}

// entryRecords are those of all entries, or the error of the first one that has one.
func entryRecords(es []api.Entry) ([]byte, api.Errno) {
	var all []byte
	for _, x := range es {
		b, e := wire.PutEntry(x)
		if e != api.OK {
			return nil, e
		}
		all = append(all, framed(ofEntry, b)...)
	}
	return all, api.OK
}

// records are a whole file's; what a log has was right when it came in.
func (c *content) records() []byte {
	all := markRecord(c.base)
	hard, _ := hardRecord(c.hard)
	entries, _ := entryRecords(c.entries)
	return append(append(all, hard...), entries...)
}

// contentOf is what records say; false, if one is none or does not fit, or no mark's comes first.
func contentOf(records [][]byte) (content, bool) {
	var c content
	if len(records) == 0 || !isMark(records[0]) {
		return content{}, false
	}
	for _, r := range records {
		if !c.take(r) {
			return content{}, false
		}
	}
	return c, true
}

func isMark(record []byte) bool { return len(record) > 0 && record[0] == ofMark }

// take does what a record says; false, if it is none or does not fit.
func (c *content) take(record []byte) bool {
	if len(record) == 0 {
		return false
	}
	body := record[1:]
	switch record[0] {
	case ofMark:
		return c.takeMark(body)
	case ofHard:
		return c.takeHard(body)
	case ofEntry:
		return c.takeEntry(body)
	}
	return false
}

func (c *content) takeMark(b []byte) bool {
	index, at, e := wire.TakeNumber(b, 0)
	if e != api.OK {
		return false
	}
	term, at, e := wire.TakeNumber(b, at)
	if e != api.OK || at < len(b) {
		return false
	}
	c.base, c.entries = api.Mark{Index: index, Term: term}, nil
	return true
}

func (c *content) takeHard(b []byte) bool {
	h, e := wire.GetHard(b)
	if e != api.OK {
		return false
	}
	c.hard = h
	return true
}

func (c *content) takeEntry(b []byte) bool {
	x, e := wire.GetEntry(b)
	if e != api.OK || !c.fits(x.Index) {
		return false
	}
	c.add(x)
	return true
}
