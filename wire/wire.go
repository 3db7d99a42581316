// Package wire is layer 2: numbers, entries, hard states and messages as bytes, one row of bytes for each thing. See shared/doc/02-wire.md.
package wire

import "tollgate/api"

// Number is a number's bytes.
func Number(n int) ([]byte, api.Errno) {
	if !within(n, 0, api.MaxNum) {
		return nil, api.ErrArg
	}
	return addNumber(nil, n), api.OK
}

// TakeNumber reads the number at a place.
func TakeNumber(b []byte, at int) (int, int, api.Errno) {
	if !within(at, 0, len(b)) {
		return 0, 0, api.ErrArg
	}
	var n int
	r := reader{bytes: b, at: at}
	if e := caught(func() { n = r.number() }); e != api.OK {
		return 0, 0, e
	}
	return n, r.at, api.OK
}

// PutEntry is an entry's bytes.
func PutEntry(e api.Entry) ([]byte, api.Errno) {
	if !entryMayBe(e) {
		return nil, api.ErrArg
	}
	if len(e.Data) > api.MaxData {
		return nil, api.ErrLimit
	}
	return addEntry(nil, e), api.OK
}

// GetEntry is the entry of bytes.
func GetEntry(b []byte) (api.Entry, api.Errno) {
	var got api.Entry
	r := reader{bytes: b}
	if e := caught(func() { got = r.entry(); r.end() }); e != api.OK {
		return api.Entry{}, e
	}
	return got, api.OK
}

// PutHard is a hard state's bytes.
func PutHard(h api.Hard) ([]byte, api.Errno) {
	if !within(h.Term, 0, api.MaxNum) || !within(h.Vote, 0, api.MaxNode) {
		return nil, api.ErrArg
	}
	return addNumber(addNumber(nil, h.Term), h.Vote), api.OK
}

// GetHard is the hard state of bytes.
func GetHard(b []byte) (api.Hard, api.Errno) {
	var got api.Hard
	r := reader{bytes: b}
	if e := caught(func() { got = r.hard(); r.end() }); e != api.OK {
		return api.Hard{}, e
	}
	return got, api.OK
}

// PutMsg is a message's bytes.
func PutMsg(m api.Msg) ([]byte, api.Errno) {
	if !msgMayBe(m) {
		return nil, api.ErrArg
	}
	if !msgFits(m) {
		return nil, api.ErrLimit
	}
	return addMsg(nil, m), api.OK
}

// GetMsg is the message of bytes.
func GetMsg(b []byte) (api.Msg, api.Errno) {
	var got api.Msg
	r := reader{bytes: b}
	if e := caught(func() { got = r.msg(); r.end() }); e != api.OK {
		return api.Msg{}, e
	}
	return got, api.OK
}
