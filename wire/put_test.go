package wire_test

import (
	"bytes"
	"math"
	"testing"

	"tollgate/api"
	"tollgate/wire"
)

var (
	belowNumbers = []int{-1, -api.MaxNum, math.MinInt}
	aboveNumbers = []int{api.MaxNum + 1, 1 << 62, math.MaxInt}
	wrongNumbers = append(append([]int{}, belowNumbers...), aboveNumbers...)
	wrongNodes   = []int{math.MinInt, -1, 0, api.MaxNode + 1, 256 + 1, math.MaxInt}
)

// P2.1
func TestNumberBytes(t *testing.T) {
	for _, c := range []struct {
		n     int
		bytes string
	}{
		{0, "\x00"}, {1, "\x01"}, {127, "\x7f"}, {128, "\x80\x01"}, {300, "\xac\x02"},
		{1<<14 - 1, "\xff\x7f"}, {1 << 14, "\x80\x80\x01"}, {1<<35 - 1, "\xff\xff\xff\xff\x7f"}, {1 << 35, "\x80\x80\x80\x80\x80\x01"},
		{api.MaxNum - 1, "\xff\xff\xff\xff\xff\x1f"}, {api.MaxNum, "\x80\x80\x80\x80\x80\x20"},
	} {
		if b, e := wire.Number(c.n); e != api.OK || string(b) != c.bytes {
			t.Errorf("Number(%d): %x, error %d; want %x", c.n, b, e, c.bytes)
		}
		if n, at, e := wire.TakeNumber([]byte(c.bytes), 0); n != c.n || at != len(c.bytes) || e != api.OK {
			t.Errorf("TakeNumber of %x: %d, %d, error %d; want %d", c.bytes, n, at, e, c.n)
		}
	}
}

// P2.1
func TestNumberErrors(t *testing.T) {
	for _, n := range wrongNumbers {
		if b, e := wire.Number(n); e != api.ErrArg || len(b) != 0 {
			t.Errorf("Number(%d): %x, error %d", n, b, e)
		}
	}
}

func wantNoEntryPut(t *testing.T, what string, e api.Entry, errno api.Errno) {
	t.Helper()
	if b, got := wire.PutEntry(e); got != errno || len(b) != 0 {
		t.Errorf("PutEntry, %s: %d bytes, error %d; want error %d", what, len(b), got, errno)
	}
	m := rightMsg()
	m.Entries = []api.Entry{{Kind: api.Noop, Term: 1, Index: 1}, e}
	wantNoMsgPut(t, what+" in a message", m, errno)
}

func wantNoMsgPut(t *testing.T, what string, m api.Msg, errno api.Errno) {
	t.Helper()
	if b, got := wire.PutMsg(m); got != errno || len(b) != 0 {
		t.Errorf("PutMsg, %s: %d bytes, error %d; want error %d", what, len(b), got, errno)
	}
}

// P2.2
func TestEntryBytes(t *testing.T) {
	for _, c := range []struct {
		e     api.Entry
		bytes string
	}{
		{api.Entry{Kind: api.Noop, Term: 1, Index: 1}, "\x01\x01\x01\x00"},
		{api.Entry{Kind: api.Noop, Term: 1, Index: 1, Data: []byte{}}, "\x01\x01\x01\x00"},
		{api.Entry{Kind: api.Data, Term: 300, Index: 2}, "\x02\xac\x02\x02\x00"},
		{api.Entry{Kind: api.Turn, Term: 2, Index: 300, Data: []byte("ab")}, "\x03\x02\xac\x02\x02ab"},
		{api.Entry{Kind: api.Data, Term: api.MaxNum, Index: api.MaxNum}, "\x02\x80\x80\x80\x80\x80\x20\x80\x80\x80\x80\x80\x20\x00"},
		{api.Entry{Kind: api.Data, Term: 1, Index: 1, Data: make([]byte, api.MaxData)}, "\x02\x01\x01\x80\x10" + string(make([]byte, api.MaxData))},
	} {
		if b, e := wire.PutEntry(c.e); e != api.OK || string(b) != c.bytes {
			t.Errorf("PutEntry of %v: %x, error %d; want %x", c.e, b, e, c.bytes)
		}
	}
}

// P2.2: an entry that may not be is ErrArg, also where it is too long besides; in a message too.
func TestEntryNotPut(t *testing.T) {
	tooMuch := make([]byte, api.MaxData+1)
	for _, kind := range []api.EntryKind{math.MinInt, -1, api.NoEntry, 4, 256 + 1, math.MaxInt} {
		wantNoEntryPut(t, "a kind that may not be", api.Entry{Kind: kind, Term: 1, Index: 1, Data: tooMuch}, api.ErrArg)
	}
	for _, n := range append([]int{0}, wrongNumbers...) {
		wantNoEntryPut(t, "a term that may not be", api.Entry{Kind: api.Data, Term: n, Index: 1, Data: tooMuch}, api.ErrArg)
		wantNoEntryPut(t, "an index that may not be", api.Entry{Kind: api.Data, Term: 1, Index: n, Data: tooMuch}, api.ErrArg)
	}
	wantNoEntryPut(t, "a Noop with data", api.Entry{Kind: api.Noop, Term: 1, Index: 1, Data: []byte{0}}, api.ErrArg)
	wantNoEntryPut(t, "a Noop with too much data", api.Entry{Kind: api.Noop, Term: 1, Index: 1, Data: tooMuch}, api.ErrArg)
	wantNoEntryPut(t, "too much data", api.Entry{Kind: api.Data, Term: 1, Index: 1, Data: tooMuch}, api.ErrLimit)
	wantNoEntryPut(t, "a Turn with too much data", api.Entry{Kind: api.Turn, Term: 1, Index: 1, Data: tooMuch}, api.ErrLimit)
}

// P2.2
func TestHardBytes(t *testing.T) {
	for _, c := range []struct {
		h     api.Hard
		bytes string
	}{
		{api.Hard{}, "\x00\x00"}, {api.Hard{Term: 5, Vote: 2}, "\x05\x02"},
		{api.Hard{Term: api.MaxNum, Vote: api.MaxNode}, "\x80\x80\x80\x80\x80\x20\x09"},
	} {
		if b, e := wire.PutHard(c.h); e != api.OK || string(b) != c.bytes {
			t.Errorf("PutHard of %v: %x, error %d; want %x", c.h, b, e, c.bytes)
		}
	}
	for _, n := range wrongNumbers {
		for _, h := range []api.Hard{{Term: n}, {Vote: n}, {Term: n, Vote: n}} {
			if b, e := wire.PutHard(h); e != api.ErrArg || len(b) != 0 {
				t.Errorf("PutHard of %v: %x, error %d", h, b, e)
			}
		}
	}
	if b, e := wire.PutHard(api.Hard{Vote: api.MaxNode + 1}); e != api.ErrArg || len(b) != 0 {
		t.Errorf("PutHard of a vote past MaxNode: %x, error %d", b, e)
	}
}

// P2.2
func TestMsgBytes(t *testing.T) {
	for _, c := range []struct {
		m     api.Msg
		bytes string
	}{
		{api.Msg{Kind: api.AskPre, From: 1, To: 1}, "\x01\x01\x01\x00\x00\x00\x00\x00\x00\x00\x00\x00"},
		{api.Msg{Kind: api.AskPre, From: 1, To: 1, Entries: []api.Entry{}, Data: []byte{}}, "\x01\x01\x01\x00\x00\x00\x00\x00\x00\x00\x00\x00"},
		{api.Msg{Kind: api.Say, From: api.MaxNode, To: 8, Ok: true, Term: 1, Index: 2, LogTerm: 3, Commit: 4, Hint: 5, Round: 300, Data: []byte("xyz")},
			"\x07\x09\x08\x01\x01\x02\x03\x04\x05\xac\x02\x00\x03xyz"},
		{rightMsg(), "\x05\x01\x02\x00\x03\x02\x01\x01\x00\x07\x02\x01\x03\x03\x00\x02\x03\xc8\x01\x01x\x00"},
	} {
		if b, e := wire.PutMsg(c.m); e != api.OK || string(b) != c.bytes {
			t.Errorf("PutMsg of %v: %x, error %d; want %x", c.m, b, e, c.bytes)
		}
	}
}

func rightMsg() api.Msg {
	return api.Msg{Kind: api.Append, From: 1, To: 2, Term: 3, Index: 2, LogTerm: 1, Commit: 1, Round: 7, Entries: []api.Entry{
		{Kind: api.Noop, Term: 3, Index: 3}, {Kind: api.Data, Term: 3, Index: 200, Data: []byte("x")}}}
}

func tooLongMsg() api.Msg {
	m := rightMsg()
	m.Entries, m.Data = make([]api.Entry, api.MaxBatch+1), make([]byte, api.MaxSnap+1)
	for i := range m.Entries {
		m.Entries[i] = api.Entry{Kind: api.Data, Term: 1, Index: 1 + i, Data: make([]byte, api.MaxData+1)}
	}
	return m
}

// P2.2: what may not be is ErrArg, also where there is too much of something besides.
func TestMsgNotPutArg(t *testing.T) {
	for _, base := range []func() api.Msg{rightMsg, tooLongMsg} {
		for _, kind := range []api.MsgKind{math.MinInt, -1, api.NoMsg, api.Say + 1, 256 + api.Say, math.MaxInt} {
			m := base()
			m.Kind = kind
			wantNoMsgPut(t, "a kind that may not be", m, api.ErrArg)
		}
		for _, node := range wrongNodes {
			m := base()
			m.From = node
			wantNoMsgPut(t, "a sender that may not be", m, api.ErrArg)
			m = base()
			m.To = node
			wantNoMsgPut(t, "a receiver that may not be", m, api.ErrArg)
		}
		for _, n := range wrongNumbers {
			for i := range 6 {
				m := base()
				*[]*int{&m.Term, &m.Index, &m.LogTerm, &m.Commit, &m.Hint, &m.Round}[i] = n
				wantNoMsgPut(t, "a number that may not be", m, api.ErrArg)
			}
		}
	}
	m := tooLongMsg()
	m.Entries[api.MaxBatch].Term = 0
	wantNoMsgPut(t, "an entry past MaxBatch that may not be", m, api.ErrArg)
}

// P2.2
func TestMsgNotPutLimit(t *testing.T) {
	m := rightMsg()
	m.Data = make([]byte, api.MaxSnap+1)
	wantNoMsgPut(t, "too much data", m, api.ErrLimit)
	m = tooLongMsg()
	wantNoMsgPut(t, "too much of all", m, api.ErrLimit)
	m = rightMsg()
	m.Entries = make([]api.Entry, api.MaxBatch+1)
	for i := range m.Entries {
		m.Entries[i] = api.Entry{Kind: api.Noop, Term: 1, Index: 1 + i}
	}
	wantNoMsgPut(t, "too many entries", m, api.ErrLimit)
	m.Entries = m.Entries[:api.MaxBatch]
	m.Data = make([]byte, api.MaxSnap)
	if b, e := wire.PutMsg(m); e != api.OK || len(b) != 4+6+1+4*api.MaxBatch+3+api.MaxSnap {
		t.Errorf("PutMsg at its limits: %d bytes, error %d", len(b), e)
	}
}

// P3: what is handed in stays as it is, spare room too, and what is put doesn't lie in it.
func TestPutMemory(t *testing.T) {
	room := bytes.Repeat([]byte{0xaa}, 64)
	data := append(room[:0], "data"...)
	whole := bytes.Clone(room)
	entry := api.Entry{Kind: api.Data, Term: 1, Index: 1, Data: data}
	entries := append(make([]api.Entry, 0, 4), entry)
	m := api.Msg{Kind: api.Append, From: 1, To: 2, Entries: entries, Data: data}
	a, _ := wire.PutEntry(entry)
	b, _ := wire.PutMsg(m)
	if !bytes.Equal(room, whole) || entries[:2][1].Kind != api.NoEntry {
		t.Error("a call changed what it was given")
	}
	before := bytes.Clone(b)
	data[0], a[0] = 'D', 0xff
	if !bytes.Contains(a, []byte("data")) || !bytes.Equal(b, before) {
		t.Error("what was put lies in what was handed in, or answers in one another")
	}
}
