package snap_test

import (
	"bytes"
	"fmt"
	"math"
	"slices"
	"strings"
	"testing"

	"tollgate/api"
	"tollgate/frame"
	"tollgate/snap"
	"tollgate/wire"
)

const mostData = api.MaxSnap / 2

var wrongNumbers = []int{math.MinInt, -api.MaxNum, -1, 0, api.MaxNum + 1, math.MaxInt}

func snapshot(index, term int, data string) api.Snap {
	return api.Snap{Mark: api.Mark{Index: index, Term: term}, Members: api.Members{Voters: []int{1, 2, 3}, Learners: []int{4}}, Data: []byte(data)}
}

func framed(b string) string {
	f, _ := frame.Frame([]byte(b))
	return string(f)
}

func number(n int) string {
	b, _ := wire.Number(n)
	return string(b)
}

// told is a snapshot without a difference between nil and empty lists.
func told(s api.Snap) string {
	return fmt.Sprintf("%d %d, voters %v, learners %v, %q", s.Mark.Index, s.Mark.Term, s.Members.Voters, s.Members.Learners, s.Data)
}

func wantOK(t *testing.T, e api.Errno) {
	t.Helper()
	if e != api.OK {
		t.Fatalf("error %d", e)
	}
}

func put(t *testing.T, s api.Snap) []byte {
	t.Helper()
	b, e := snap.Put(s)
	wantOK(t, e)
	return b
}

func wantGot(t *testing.T, b []byte, want api.Snap) {
	t.Helper()
	if s, e := snap.Get(b); e != api.OK || told(s) != told(want) {
		t.Errorf("Get of %d bytes: %.300s, error %d; want %.300s", len(b), told(s), e, told(want))
	}
}

func wantNotGot(t *testing.T, what, b string, errno api.Errno) {
	t.Helper()
	if s, e := snap.Get([]byte(b)); e != errno || told(s) != told(api.Snap{}) {
		t.Errorf("Get, %s: %.300s, error %d; want error %d", what, told(s), e, errno)
	}
}

// P7.1, P7.5 (E1)
func TestBytes(t *testing.T) {
	long := strings.Repeat("d", mostData)
	for _, c := range []struct {
		s    api.Snap
		held string
	}{
		{api.Snap{Mark: api.Mark{Index: 1, Term: 1}, Members: api.Members{Voters: []int{1}}}, "\x01\x01\x03\x01\x01\x00\x00"},
		{api.Snap{Mark: api.Mark{Index: 1, Term: 1}, Members: api.Members{Voters: []int{1}, Learners: []int{}}, Data: []byte{}}, "\x01\x01\x03\x01\x01\x00\x00"},
		{snapshot(3, 2, "abc"), "\x03\x02\x06\x03\x01\x02\x03\x01\x04\x03abc"},
		{snapshot(2, 3, "\x00"), "\x02\x03\x06\x03\x01\x02\x03\x01\x04\x01\x00"},
		{snapshot(300, 200, "x"), "\xac\x02\xc8\x01\x06\x03\x01\x02\x03\x01\x04\x01x"},
		{snapshot(api.MaxNum, api.MaxNum, "x"), "\x80\x80\x80\x80\x80\x20\x80\x80\x80\x80\x80\x20\x06\x03\x01\x02\x03\x01\x04\x01x"},
		{api.Snap{Mark: api.Mark{Index: 1, Term: 1}, Members: api.Members{Voters: []int{1, 2, 3, 4, 5, 6, 7, 8, 9}}}, "\x01\x01\x0b\x09\x01\x02\x03\x04\x05\x06\x07\x08\x09\x00\x00"},
		{snapshot(1, 1, long), "\x01\x01\x06\x03\x01\x02\x03\x01\x04\x80\x80\x01" + long},
		{snapshot(1, 1, long[1:]), "\x01\x01\x06\x03\x01\x02\x03\x01\x04\xff\x7f" + long[1:]},
	} {
		b, e := snap.Put(c.s)
		if e != api.OK || string(b) != framed(c.held) {
			t.Errorf("Put(%.200s): %.200x, error %d; want %.200x", told(c.s), b, e, framed(c.held))
		}
		wantGot(t, b, c.s)
	}
}

// P7.1: in the document's order.
func TestNotPut(t *testing.T) {
	tooMuch := strings.Repeat("d", mostData+1)
	refused := func(what string, s api.Snap, errno api.Errno) {
		t.Helper()
		if b, e := snap.Put(s); e != errno || len(b) != 0 {
			t.Errorf("Put, %s: %d bytes, error %d; want error %d", what, len(b), e, errno)
		}
	}
	for _, n := range wrongNumbers {
		for _, data := range []string{"", tooMuch} {
			refused(fmt.Sprintf("index %d", n), snapshot(n, 1, data), api.ErrArg)
			refused(fmt.Sprintf("term %d", n), snapshot(1, n, data), api.ErrArg)
		}
	}
	for what, m := range map[string]api.Members{
		"no members": {}, "no voter": {Learners: []int{1}}, "voters that fall": {Voters: []int{2, 1}}, "a voter twice": {Voters: []int{1, 1}},
		"voter 0": {Voters: []int{0, 1}}, "voter 10": {Voters: []int{1, 10}}, "a learner who votes": {Voters: []int{1, 2}, Learners: []int{2}},
	} {
		s := snapshot(1, 1, "")
		s.Members = m
		refused(what, s, api.ErrArg)
		s.Data = []byte(tooMuch)
		refused(what, s, api.ErrArg)
	}
	refused("too much data", snapshot(1, 1, tooMuch), api.ErrLimit)
	refused("far too much data", snapshot(1, 1, strings.Repeat("d", 2*api.MaxFrame)), api.ErrLimit)
}

// P7.1: what stands in a frame, from the left.
func TestNotGot(t *testing.T) {
	const members = "\x03\x01\x01\x00"
	for _, c := range []struct {
		what, held string
		errno      api.Errno
	}{
		{"nothing", "", api.ErrShort},
		{"an index of 0", "\x00", api.ErrForm},
		{"an index of 0 ahead of a term that is none", "\x00\x80\x00", api.ErrForm},
		{"an index that is not the shortest", "\x81\x00\x01" + members + "\x00", api.ErrForm},
		{"an index that is cut", "\x81", api.ErrShort},
		{"an index above MaxNum", "\x81\x80\x80\x80\x80\x20\x01" + members + "\x00", api.ErrLimit},
		{"an index that is too long", "\x80\x80\x80\x80\x80\x80\x00\x01" + members + "\x00", api.ErrLimit},
		{"no term", "\x01", api.ErrShort},
		{"a term of 0", "\x01\x00", api.ErrForm},
		{"a term of 0, all else right", "\x01\x00" + members + "\x00", api.ErrForm},
		{"a term that is not the shortest", "\x01\x81\x00" + members + "\x00", api.ErrForm},
		{"a term above MaxNum", "\x01\x81\x80\x80\x80\x80\x20" + members + "\x00", api.ErrLimit},
		{"no members' size", "\x01\x01", api.ErrShort},
		{"a members' size that is not the shortest", "\x01\x01\x83\x00\x01\x01\x00\x00", api.ErrForm},
		{"a members' size above MaxNum", "\x01\x01\x81\x80\x80\x80\x80\x20", api.ErrLimit},
		{"a members' size of MaxNum", "\x01\x01\x80\x80\x80\x80\x80\x20\x00", api.ErrShort},
		{"members of no bytes", "\x01\x01\x00\x00", api.ErrShort},
		{"members that are cut by all", "\x01\x01\x03\x01\x01", api.ErrShort},
		{"wrong members that are cut by all", "\x01\x01\x03\x01\x00", api.ErrShort},
		{"members that are cut by their size", "\x01\x01\x02\x01\x01\x00\x00", api.ErrShort},
		{"members with a byte behind", "\x01\x01\x04\x01\x01\x00\x00\x00", api.ErrForm},
		{"no voter", "\x01\x01\x02\x00\x00\x00", api.ErrForm},
		{"voter 0", "\x01\x01\x03\x01\x00\x00\x00", api.ErrForm},
		{"too many voters", "\x01\x01\x03\x0a\x01\x00\x00", api.ErrForm},
		{"a voter above MaxNum", "\x01\x01\x08\x01\x81\x80\x80\x80\x80\x20\x00\x00", api.ErrLimit},
		{"wrong members ahead of too much data", "\x01\x01\x02\x00\x00\x81\x80\x01", api.ErrForm},
		{"no data's size", "\x01\x01" + members, api.ErrShort},
		{"a data's size that is not the shortest", "\x01\x01" + members + "\x80\x00", api.ErrForm},
		{"a data's size above MaxNum", "\x01\x01" + members + "\x81\x80\x80\x80\x80\x20", api.ErrLimit},
		{"too much data, and none of it there", "\x01\x01" + members + "\x81\x80\x01", api.ErrLimit},
		{"too much data, all of it there", "\x01\x01" + members + "\x81\x80\x01" + strings.Repeat("d", mostData+1), api.ErrLimit},
		{"as much data as may be, one too few there", "\x01\x01" + members + "\x80\x80\x01" + strings.Repeat("d", mostData-1), api.ErrShort},
		{"data that is cut", "\x01\x01" + members + "\x02a", api.ErrShort},
		{"a byte behind", "\x01\x01" + members + "\x01ab", api.ErrForm},
		{"a byte behind no data", "\x01\x01" + members + "\x00\x00", api.ErrForm},
	} {
		wantNotGot(t, c.what, framed(c.held), c.errno)
	}
}

// P7.1: the frame's own faults, ahead of all that it holds.
func TestNotFramed(t *testing.T) {
	if s, e := snap.Get(nil); e != api.ErrShort || told(s) != told(api.Snap{}) {
		t.Errorf("Get(nil): error %d", e)
	}
	b := string(put(t, snapshot(3, 2, "abc")))
	for size := range len(b) {
		wantNotGot(t, fmt.Sprintf("cut to %d bytes", size), b[:size], api.ErrShort)
	}
	for i := 4; i < len(b); i++ {
		for bit := range 8 {
			turned := []byte(b)
			turned[i] ^= 1 << bit
			wantNotGot(t, fmt.Sprintf("bit %d of byte %d turned", bit, i), string(turned), api.ErrSum)
		}
	}
	wantNotGot(t, "a frame that is too long", "\x00\x01\x00\x01"+b[4:], api.ErrLimit)
	wantNotGot(t, "a byte behind the frame", b+"\x00", api.ErrForm)
	wantNotGot(t, "the same frame behind", b+b, api.ErrForm)
	wantNotGot(t, "a byte behind the frame of what is none", framed("")+"\x00", api.ErrForm)
	wantNotGot(t, "a byte behind the frame of too much", framed("\x81\x80\x80\x80\x80\x20")+"\x00", api.ErrForm)
	wantNotGot(t, "a byte ahead", "\x00"+b, api.ErrSum)
	wantNotGot(t, "what the frame holds", b[8:], api.ErrLimit)
}

// P7.5 (E1): what is got is put as the same bytes: no snapshot has two rows of them.
func TestGotIsPut(t *testing.T) {
	c := chance(7)
	right := 0
	for range 60000 {
		held := []byte("\x01\x01\x03\x01\x01\x00\x01a")
		for range 1 + c.below(3) {
			held[c.below(len(held))] = byte(c.below(6))
		}
		if c.below(4) == 0 {
			held = held[:c.below(len(held)+1)]
		}
		b := framed(string(held))
		s, e := snap.Get([]byte(b))
		if e != api.OK {
			continue
		}
		right++
		if again := put(t, s); string(again) != b {
			t.Fatalf("%x was got as %s, which is put as %x", b, told(s), again)
		}
	}
	if right < 1000 {
		t.Errorf("only %d rows of bytes were right", right)
	}
}

// P3: nothing that was handed in is kept or changed, not behind its end either.
func TestMemory(t *testing.T) {
	s := snapshot(3, 2, "abc")
	s.Data = append(s.Data, "spare"...)[:3]
	s.Members.Voters = append(s.Members.Voters, 7)[:3]
	s.Members.Learners = append(s.Members.Learners, 8)[:1]
	want := told(s)
	b := put(t, s)
	if told(s) != want || string(s.Data[:8]) != "abcspare" || s.Members.Voters[:4][3] != 7 || s.Members.Learners[:2][1] != 8 {
		t.Error("Put changed what was handed in")
	}
	was := string(b)
	s.Data[0], s.Members.Voters[0], s.Members.Learners[0] = 'X', 9, 9
	if string(b) != was {
		t.Error("bytes changed with the snapshot that they are of")
	}
	b = append(b, "spare"...)[:len(b)]
	got, e := snap.Get(b)
	wantOK(t, e)
	if string(b[:len(b)+5]) != was+"spare" {
		t.Error("Get changed what was handed in")
	}
	clear(b)
	if told(got) != want {
		t.Errorf("what was got changed with its bytes: %s", told(got))
	}
	again, _ := snap.Get([]byte(was))
	got.Data, got.Members.Voters = append(got.Data, 'Z'), append(got.Members.Voters, 9)
	got.Data[0], got.Members.Voters[0], got.Members.Learners[0] = 'Y', 8, 8
	if told(again) != want {
		t.Errorf("two answers share memory: %s", told(again))
	}
	if !bytes.Equal(put(t, again), []byte(was)) || slices.Equal(got.Members.Voters, again.Members.Voters) {
		t.Error("what was got is put otherwise")
	}
}
