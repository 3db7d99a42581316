package wire_test

import (
	"bytes"
	"math"
	"math/rand"
	"reflect"
	"testing"

	"tollgate/api"
	"tollgate/wire"
)

func wantNumber(t *testing.T, b string, at, n, behind int, errno api.Errno) {
	t.Helper()
	if gotN, gotAt, e := wire.TakeNumber([]byte(b), at); gotN != n || gotAt != behind || e != errno {
		t.Errorf("TakeNumber(%x, %d): %d, %d, error %d; want %d, %d, error %d", b, at, gotN, gotAt, e, n, behind, errno)
	}
}

// P2.1
func TestTakeNumberPlaces(t *testing.T) {
	for _, at := range []int{math.MinInt, -1, 4, math.MaxInt} {
		wantNumber(t, "\xac\x02\x07", at, 0, 0, api.ErrArg)
	}
	wantNumber(t, "\xac\x02\x07", 0, 300, 2, api.OK)
	wantNumber(t, "\xac\x02\x07", 1, 2, 2, api.OK)
	wantNumber(t, "\xac\x02\x07", 2, 7, 3, api.OK)
	wantNumber(t, "\xac\x02\x07", 3, 0, 0, api.ErrShort)
	wantNumber(t, "", 0, 0, 0, api.ErrShort)
	if _, _, e := wire.TakeNumber(nil, 0); e != api.ErrShort {
		t.Errorf("TakeNumber of nil: error %d", e)
	}
	if _, _, e := wire.TakeNumber(nil, 1); e != api.ErrArg {
		t.Errorf("TakeNumber of nil at 1: error %d", e)
	}
}

// P2.1: the errors, each beside those that could be taken for it.
func TestTakeNumberErrors(t *testing.T) {
	wantNumber(t, "\x80", 0, 0, 0, api.ErrShort)
	wantNumber(t, "\xff\xff\xff\xff\xff", 0, 0, 0, api.ErrShort)
	wantNumber(t, "\xff\xff\xff\xff\xff\xff", 0, 0, 0, api.ErrLimit)
	wantNumber(t, "\x80\x80\x80\x80\x80\x80", 0, 0, 0, api.ErrLimit)
	wantNumber(t, "\x80\x80\x80\x80\x80\x80\x00", 0, 0, 0, api.ErrLimit)
	wantNumber(t, "\x80\x80\x80\x80\x80\x00", 0, 0, 0, api.ErrForm)
	wantNumber(t, "\x80\x00", 0, 0, 0, api.ErrForm)
	wantNumber(t, "\xff\x80\x00", 0, 0, 0, api.ErrForm)
	wantNumber(t, "\x00", 0, 0, 1, api.OK)
	wantNumber(t, "\x00\x00", 1, 0, 2, api.OK)
	wantNumber(t, "\x80\x80\x80\x80\x80\x20", 0, api.MaxNum, 6, api.OK)
	wantNumber(t, "\x81\x80\x80\x80\x80\x20", 0, 0, 0, api.ErrLimit)
	wantNumber(t, "\x80\x80\x80\x80\x80\x21", 0, 0, 0, api.ErrLimit)
	wantNumber(t, "\xff\xff\xff\xff\xff\x7f", 0, 0, 0, api.ErrLimit)
}

// piece is some bytes of a thing, and what else could stand there, with the error that it is.
type piece struct {
	good string
	bad  map[string]api.Errno
}

func badNumbers(more map[string]api.Errno) map[string]api.Errno {
	all := map[string]api.Errno{
		"\x80\x00":                         api.ErrForm,
		"\x80\x80\x80\x80\x80\x00":         api.ErrForm,
		"\x80\x80\x80\x80\x80\x80":         api.ErrLimit,
		"\x81\x80\x80\x80\x80\x20":         api.ErrLimit,
		"\xff\xff\xff\xff\xff\x7f":         api.ErrLimit,
		"\xff\xff\xff\xff\xff\xff\xff\x01": api.ErrLimit,
	}
	for b, e := range more {
		all[b] = e
	}
	return all
}

func badByte(bytes ...string) map[string]api.Errno {
	all := map[string]api.Errno{"\xff": api.ErrForm, "\x80": api.ErrForm}
	for _, b := range bytes {
		all[b] = api.ErrForm
	}
	return all
}

func behindEnd() piece {
	return piece{"", map[string]api.Errno{"\x00": api.ErrForm, "\xff\xff": api.ErrForm}}
}

func entryPieces(kind, length, data string, badLength map[string]api.Errno) []piece {
	positive := badNumbers(map[string]api.Errno{"\x00": api.ErrForm})
	return []piece{{kind, badByte("\x00", "\x04")}, {"\x03", positive}, {"\xc8\x01", positive}, {length, badNumbers(badLength)}, {data, nil}}
}

func noopPieces() []piece {
	return entryPieces("\x01", "\x00", "", map[string]api.Errno{"\x01": api.ErrForm, "\x80\x10": api.ErrForm, "\x81\x10": api.ErrForm, "\x80\x80\x80\x80\x80\x20": api.ErrForm})
}

func dataPieces() []piece {
	return entryPieces("\x02", "\x02", "ab", map[string]api.Errno{"\x81\x10": api.ErrLimit, "\x80\x80\x80\x80\x80\x20": api.ErrLimit})
}

func hardPieces() []piece {
	return []piece{{"\x05", badNumbers(nil)}, {"\x09", badNumbers(map[string]api.Errno{"\x0a": api.ErrForm, "\xac\x02": api.ErrForm, "\x80\x80\x80\x80\x80\x20": api.ErrForm})}, behindEnd()}
}

func msgPieces() []piece {
	l := []piece{{"\x05", badByte("\x00", "\x08")}, {"\x01", badByte("\x00", "\x0a")}, {"\x09", badByte("\x00", "\x0a")}, {"\x01", badByte("\x02")}}
	for _, n := range []string{"\x00", "\x01", "\xac\x02", "\x80\x80\x80\x80\x80\x20", "\x04", "\x05"} {
		l = append(l, piece{n, badNumbers(nil)})
	}
	l = append(l, piece{"\x02", badNumbers(map[string]api.Errno{"\x09": api.ErrLimit, "\xac\x02": api.ErrLimit})})
	l = append(append(l, noopPieces()...), dataPieces()...)
	l = append(l, piece{"\x03", badNumbers(map[string]api.Errno{"\x81\x80\x02": api.ErrLimit, "\x80\x80\x80\x80\x80\x20": api.ErrLimit})}, piece{"xyz", nil})
	return append(l, behindEnd())
}

func goodBytes(pieces []piece) string {
	all := ""
	for _, p := range pieces {
		all += p.good
	}
	return all
}

// wantFirstFault lays each fault at its place, with right bytes, with nothing, or with another fault behind it.
func wantFirstFault(t *testing.T, pieces []piece, get func(string) api.Errno) {
	t.Helper()
	whole := goodBytes(pieces)
	if e := get(whole); e != api.OK {
		t.Fatalf("%x: error %d", whole, e)
	}
	for cut := range len(whole) {
		if e := get(whole[:cut]); e != api.ErrShort {
			t.Errorf("%x, which is cut short: error %d", whole[:cut], e)
		}
	}
	for i, p := range pieces {
		for bad, errno := range p.bad {
			begin := goodBytes(pieces[:i]) + bad
			rests := []string{"", goodBytes(pieces[i+1:]), "\xff\xff\xff\xff\xff\xff\xff\xff\xff"}
			for j := i + 1; j < len(pieces); j++ {
				for second := range pieces[j].bad {
					rests = append(rests, goodBytes(pieces[i+1:j])+second+goodBytes(pieces[j+1:]))
				}
			}
			for _, rest := range rests {
				if e := get(begin + rest); e != errno {
					t.Errorf("%x with %x at piece %d: error %d, want %d", begin+rest, bad, i, e, errno)
				}
			}
		}
	}
}

// P2.3, and P2 for what stands beside an error.
func TestGetFaults(t *testing.T) {
	getEntry := func(b string) api.Errno {
		got, e := wire.GetEntry([]byte(b))
		if e != api.OK && !reflect.DeepEqual(got, api.Entry{}) {
			t.Errorf("GetEntry(%x): error %d beside %v", b, e, got)
		}
		return e
	}
	wantFirstFault(t, append(noopPieces(), behindEnd()), getEntry)
	wantFirstFault(t, append(dataPieces(), behindEnd()), getEntry)
	wantFirstFault(t, hardPieces(), func(b string) api.Errno {
		got, e := wire.GetHard([]byte(b))
		if e != api.OK && got != (api.Hard{}) {
			t.Errorf("GetHard(%x): error %d beside %v", b, e, got)
		}
		return e
	})
	wantFirstFault(t, msgPieces(), func(b string) api.Errno {
		got, e := wire.GetMsg([]byte(b))
		if e != api.OK && !reflect.DeepEqual(got, api.Msg{}) {
			t.Errorf("GetMsg(%x): error %d beside %v", b, e, got)
		}
		return e
	})
}

// P2.3
func TestGetOfNone(t *testing.T) {
	for _, b := range [][]byte{nil, {}} {
		_, a := wire.GetEntry(b)
		_, c := wire.GetHard(b)
		_, d := wire.GetMsg(b)
		if a != api.ErrShort || c != api.ErrShort || d != api.ErrShort {
			t.Errorf("no bytes: errors %d, %d, %d", a, c, d)
		}
	}
}

// P2.3
func TestGotThings(t *testing.T) {
	e, errno := wire.GetEntry([]byte("\x03\x02\xac\x02\x02ab"))
	if errno != api.OK || !reflect.DeepEqual(e, api.Entry{Kind: api.Turn, Term: 2, Index: 300, Data: []byte("ab")}) {
		t.Errorf("GetEntry: %v, error %d", e, errno)
	}
	h, errno := wire.GetHard([]byte("\xac\x02\x09"))
	if errno != api.OK || h != (api.Hard{Term: 300, Vote: 9}) {
		t.Errorf("GetHard: %v, error %d", h, errno)
	}
	want := api.Msg{Kind: api.Append, From: 1, To: 9, Ok: true, Index: 1, LogTerm: 300, Commit: api.MaxNum, Hint: 4, Round: 5, Data: []byte("xyz"),
		Entries: []api.Entry{{Kind: api.Noop, Term: 3, Index: 200}, {Kind: api.Data, Term: 3, Index: 200, Data: []byte("ab")}}}
	if m, errno := wire.GetMsg([]byte(goodBytes(msgPieces()))); errno != api.OK || !reflect.DeepEqual(m, want) {
		t.Errorf("GetMsg: %v, error %d", m, errno)
	}
}

func randomNumber(r *rand.Rand, least int) int {
	switch r.Intn(6) {
	case 0:
		return least
	case 1:
		return api.MaxNum
	}
	return max(least, int(r.Int63n(1<<r.Intn(41))))
}

func randomData(r *rand.Rand, most int) []byte {
	size := [...]int{0, 1, r.Intn(200), most}[r.Intn(4)]
	if size == 0 {
		return nil
	}
	b := make([]byte, size)
	r.Read(b)
	return b
}

func randomEntry(r *rand.Rand) api.Entry {
	e := api.Entry{Kind: api.EntryKind(1 + r.Intn(3)), Term: randomNumber(r, 1), Index: randomNumber(r, 1)}
	if e.Kind != api.Noop {
		e.Data = randomData(r, api.MaxData)
	}
	return e
}

func randomMsg(r *rand.Rand) api.Msg {
	m := api.Msg{Kind: api.MsgKind(1 + r.Intn(7)), From: 1 + r.Intn(api.MaxNode), To: 1 + r.Intn(api.MaxNode), Ok: r.Intn(2) == 1,
		Term: randomNumber(r, 0), Index: randomNumber(r, 0), LogTerm: randomNumber(r, 0), Commit: randomNumber(r, 0), Hint: randomNumber(r, 0), Round: randomNumber(r, 0)}
	for range r.Intn(api.MaxBatch + 1) {
		m.Entries = append(m.Entries, randomEntry(r))
	}
	m.Data = randomData(r, api.MaxSnap)
	return m
}

// P2.4
func TestPutIsGot(t *testing.T) {
	r := rand.New(rand.NewSource(1))
	for range 500 {
		e := randomEntry(r)
		b, _ := wire.PutEntry(e)
		if got, errno := wire.GetEntry(b); errno != api.OK || !reflect.DeepEqual(got, e) {
			t.Fatalf("entry %v is got as %v, error %d", e, got, errno)
		}
		h := api.Hard{Term: randomNumber(r, 0), Vote: r.Intn(api.MaxNode + 1)}
		b, _ = wire.PutHard(h)
		if got, errno := wire.GetHard(b); errno != api.OK || got != h {
			t.Fatalf("hard state %v is got as %v, error %d", h, got, errno)
		}
		m := randomMsg(r)
		b, _ = wire.PutMsg(m)
		if got, errno := wire.GetMsg(b); errno != api.OK || !reflect.DeepEqual(got, m) {
			t.Fatalf("message %v is got as %v, error %d", m, got, errno)
		}
	}
}

// P2.4: of all rows of up to two bytes, and of many with three, those are hard states that are put for one.
func TestOneRowForEachHard(t *testing.T) {
	put := map[string]api.Hard{}
	for term := range 1 << 14 {
		for vote := range api.MaxNode + 1 {
			h := api.Hard{Term: term, Vote: vote}
			b, _ := wire.PutHard(h)
			put[string(b)] = h
		}
	}
	wantIfPut := func(b ...byte) {
		h, e := wire.GetHard(b)
		want, known := put[string(b)]
		if (e == api.OK) != known || h != want {
			t.Fatalf("GetHard(%x): %v, error %d; put for one: %v", b, h, e, known)
		}
	}
	wantIfPut()
	for first := range 256 {
		wantIfPut(byte(first))
		for second := range 256 {
			wantIfPut(byte(first), byte(second))
			for _, third := range []byte{0, 1, 2, 9, 10, 0x7f, 0x80, 0xff} {
				wantIfPut(byte(first), byte(second), third)
			}
		}
	}
}

// P2.4 and P1: bytes of which one was changed are refused, or put again as they are.
func TestGotIsPutAsSameBytes(t *testing.T) {
	r := rand.New(rand.NewSource(2))
	for range 300 {
		m := randomMsg(r)
		m.Data = m.Data[:min(len(m.Data), 20)]
		b, _ := wire.PutMsg(m)
		for range 100 {
			x := bytes.Clone(b)
			x[r.Intn(min(len(x), 60))] = byte(r.Intn(256))
			wantSameBytes(t, x)
		}
	}
	for range 20000 {
		b := make([]byte, r.Intn(12))
		for i := range b {
			b[i] = [...]byte{0, 1, 2, 3, 0x80, byte(r.Intn(256))}[r.Intn(6)]
		}
		wantSameBytes(t, b)
	}
}

func wantSameBytes(t *testing.T, b []byte) {
	t.Helper()
	if m, e := wire.GetMsg(b); e == api.OK {
		if again, e := wire.PutMsg(m); e != api.OK || !bytes.Equal(again, b) {
			t.Fatalf("message %x is put again as %x, error %d", b, again, e)
		}
	}
	if x, e := wire.GetEntry(b); e == api.OK {
		if again, e := wire.PutEntry(x); e != api.OK || !bytes.Equal(again, b) {
			t.Fatalf("entry %x is put again as %x, error %d", b, again, e)
		}
	}
	if h, e := wire.GetHard(b); e == api.OK {
		if again, e := wire.PutHard(h); e != api.OK || !bytes.Equal(again, b) {
			t.Fatalf("hard state %x is put again as %x, error %d", b, again, e)
		}
	}
	if n, at, e := wire.TakeNumber(b, 0); e == api.OK {
		if again, e := wire.Number(n); e != api.OK || !bytes.Equal(again, b[:at]) {
			t.Fatalf("number %x is put again as %x, error %d", b[:at], again, e)
		}
	}
}

// P2.5
func TestMsgCutOrLonger(t *testing.T) {
	r := rand.New(rand.NewSource(3))
	for range 60 {
		m := randomMsg(r)
		m.Data = m.Data[:min(len(m.Data), 100)]
		b, _ := wire.PutMsg(m)
		for cut := 0; cut < len(b); cut += 1 + cut/100 {
			if _, e := wire.GetMsg(b[:cut]); e != api.ErrShort {
				t.Fatalf("%d bytes of %x: error %d", cut, b, e)
			}
		}
		if _, e := wire.GetMsg(b[:len(b)-1]); e != api.ErrShort {
			t.Fatalf("all but the last byte of %x: error %d", b, e)
		}
		for _, behind := range []string{"\x00", "\xff", string(b)} {
			if _, e := wire.GetMsg(append(bytes.Clone(b), behind...)); e != api.ErrForm {
				t.Fatalf("%x with %x behind: error %d", b, behind, e)
			}
		}
	}
}

// P3: what is got lies neither in the bytes nor in another part of the answer.
func TestGetMemory(t *testing.T) {
	room := append([]byte(goodBytes(msgPieces())), "spare room"...)
	whole := bytes.Clone(room)
	b := room[:len(room)-len("spare room")]
	m, _ := wire.GetMsg(b)
	other, _ := wire.GetMsg(b)
	m.Entries[1].Data[0] = '!'
	m.Data[0] = '!'
	_ = append(m.Data, "over the end"...)
	_ = append(m.Entries[1].Data, "over the end"...)
	if !bytes.Equal(room, whole) {
		t.Error("what is got lies in what was handed in")
	}
	if string(m.Data) != "!yz" || string(other.Data) != "xyz" || string(other.Entries[1].Data) != "ab" {
		t.Error("what is got lies in another answer")
	}
	for i := range b {
		b[i] = 0
	}
	if string(other.Data) != "xyz" || string(other.Entries[1].Data) != "ab" {
		t.Error("what is got hangs on what was handed in")
	}
}

// P6: bytes that were given up change no later answer.
func TestNothingIsKept(t *testing.T) {
	b := []byte(goodBytes(msgPieces()))
	first, _ := wire.GetMsg(b)
	wire.GetMsg(b[:7])
	wire.GetEntry([]byte{1, 0})
	wire.TakeNumber([]byte{0x80}, 0)
	if second, e := wire.GetMsg(b); e != api.OK || !reflect.DeepEqual(first, second) {
		t.Errorf("a second call answers otherwise: %v, error %d", second, e)
	}
}
