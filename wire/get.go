package wire

import "tollgate/api"

const longest = 6 // bytes of MaxNum

// fault is the panic by which a reader gives bytes up; a type of its own, so that no other panic is taken for it.
type fault struct{ errno api.Errno }

func giveUp(e api.Errno) { panic(fault{e}) }

// caught reads, and answers why the reading was given up.
func caught(read func()) (e api.Errno) {
	defer func() {
		switch f := recover().(type) {
		case nil:
		case fault:
			e = f.errno
		default: // hiding a mistake of the program's own would make it look like good bytes
			panic(f)
		}
	}()
	read()
	return api.OK
}

// reader goes through bytes from a place on; its methods give up at the first fault.
type reader struct {
	bytes []byte
	at    int
}

func (r *reader) one() byte {
	if r.at == len(r.bytes) {
		giveUp(api.ErrShort)
	}
	c := r.bytes[r.at]
	r.at++
	return c
}

// oneWithin is a byte that may be from least to most only.
func (r *reader) oneWithin(least, most int) int {
	n := int(r.one())
	if !within(n, least, most) {
		giveUp(api.ErrForm)
	}
	return n
}

func (r *reader) number() int {
	n, size := 0, 0
next:
	c := r.one()
	n |= int(c&lowBits) << (bitStep * size)
	size++
	if c >= more {
		// Behind the longest number's last byte the bits would leave the number.
		if size == longest {
			giveUp(api.ErrLimit)
		}
		goto next
	}
	if c == 0 && size > 1 {
		giveUp(api.ErrForm)
	}
	if n > api.MaxNum {
		giveUp(api.ErrLimit)
	}
	return n
}

// positive is a Term or an Index of an entry.
func (r *reader) positive() int {
	n := r.number()
	if n == 0 {
		giveUp(api.ErrForm)
	}
	return n
}

// numberUpTo is a number of entries or bytes.
func (r *reader) numberUpTo(most int) int {
	n := r.number()
	if n > most {
		giveUp(api.ErrLimit)
	}
	return n
}

// data copies, so that what is answered doesn't lie in what was handed in.
func (r *reader) data(size int) []byte {
	if len(r.bytes)-r.at < size {
		giveUp(api.ErrShort)
	}
	data := append([]byte(nil), r.bytes[r.at:r.at+size]...)
	r.at += size
	return data
}

func (r *reader) end() {
	if r.at < len(r.bytes) {
		giveUp(api.ErrForm)
	}
}

func (r *reader) entry() api.Entry {
	var e api.Entry
	e.Kind = api.EntryKind(r.oneWithin(int(api.Noop), int(api.Turn)))
	e.Term = r.positive()
	e.Index = r.positive()
	e.Data = r.data(r.entrySize(e.Kind))
	return e
}

// entrySize holds a Noop's length against 0 ahead of the limit: that error is named first.
func (r *reader) entrySize(kind api.EntryKind) int {
	size := r.number()
	if kind == api.Noop && size > 0 {
		giveUp(api.ErrForm)
	}
	if size > api.MaxData {
		giveUp(api.ErrLimit)
	}
	return size
}

func (r *reader) hard() api.Hard {
	var h api.Hard
	h.Term = r.number()
	h.Vote = r.number()
	if h.Vote > api.MaxNode {
		giveUp(api.ErrForm)
	}
	return h
}

func (r *reader) msg() api.Msg {
	var m api.Msg
	m.Kind = api.MsgKind(r.oneWithin(int(api.AskPre), int(api.Say)))
	m.From = r.oneWithin(1, api.MaxNode)
	m.To = r.oneWithin(1, api.MaxNode)
	m.Ok = r.oneWithin(0, 1) == 1
	m.Term = r.number()
	m.Index = r.number()
	m.LogTerm = r.number()
	m.Commit = r.number()
	m.Hint = r.number()
	m.Round = r.number()
	for range r.numberUpTo(api.MaxBatch) {
		m.Entries = append(m.Entries, r.entry())
	}
	m.Data = r.data(r.numberUpTo(api.MaxSnap))
	return m
}
