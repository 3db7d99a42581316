package snap_test

import (
	"fmt"
	"math"
	"strings"
	"testing"

	"tollgate/api"
	"tollgate/snap"
)

func piece(whole, place int, b string) string { return number(whole) + number(place) + b }

func cut(t *testing.T, b string, size int) []string {
	t.Helper()
	pieces, e := snap.Pieces([]byte(b), size)
	wantOK(t, e)
	var l []string
	for _, p := range pieces {
		l = append(l, string(p))
	}
	return l
}

// P7.3
func TestPieces(t *testing.T) {
	for _, c := range []struct {
		bytes string
		size  int
		want  []string
	}{
		{"abc", 2, []string{"\x03\x00ab", "\x03\x02c"}}, // the document's example
		{"abc", 1, []string{"\x03\x00a", "\x03\x01b", "\x03\x02c"}},
		{"abc", 3, []string{"\x03\x00abc"}},
		{"abc", 4, []string{"\x03\x00abc"}},
		{"abc", math.MaxInt, []string{"\x03\x00abc"}},
		{"abcd", 2, []string{"\x04\x00ab", "\x04\x02cd"}},
		{"a", 1, []string{"\x01\x00a"}},
		{"", 1, []string{"\x00\x00"}},
		{"", math.MaxInt, []string{"\x00\x00"}},
		{strings.Repeat("a", 129) + "b", 129, []string{"\x82\x01\x00" + strings.Repeat("a", 129), "\x82\x01\x81\x01b"}},
	} {
		if got := cut(t, c.bytes, c.size); fmt.Sprintf("%q", got) != fmt.Sprintf("%q", c.want) {
			t.Errorf("Pieces(%.20q, %d): %.300q; want %.300q", c.bytes, c.size, got, c.want)
		}
	}
	if l, e := snap.Pieces(nil, 5); e != api.OK || len(l) != 1 || string(l[0]) != "\x00\x00" {
		t.Errorf("Pieces(nil, 5): %q, error %d", l, e)
	}
	most := strings.Repeat("m", api.MaxSnap)
	if l := cut(t, most, api.MaxSnap-1); len(l) != 2 || l[0] != piece(api.MaxSnap, 0, most[1:]) || l[1] != piece(api.MaxSnap, api.MaxSnap-1, "m") {
		t.Errorf("MaxSnap bytes are %d pieces", len(l))
	}
	if l := cut(t, most, api.MaxSnap); len(l) != 1 || l[0] != piece(api.MaxSnap, 0, most) {
		t.Errorf("MaxSnap bytes in one piece are %d pieces", len(l))
	}
}

// P7.3: in the document's order.
func TestNoPieces(t *testing.T) {
	for _, c := range []struct{ bytes, size int }{{0, 0}, {3, 0}, {3, -1}, {3, math.MinInt}, {api.MaxSnap + 1, 0}, {api.MaxSnap + 1, -1}} {
		if l, e := snap.Pieces(make([]byte, c.bytes), c.size); e != api.ErrArg || len(l) != 0 {
			t.Errorf("Pieces of %d bytes, size %d: %d pieces, error %d", c.bytes, c.size, len(l), e)
		}
	}
	for _, size := range []int{1, 1000, math.MaxInt} {
		if l, e := snap.Pieces(make([]byte, api.MaxSnap+1), size); e != api.ErrLimit || len(l) != 0 {
			t.Errorf("Pieces of too many bytes, size %d: %d pieces, error %d", size, len(l), e)
		}
	}
}

func wantGathered(t *testing.T, g *snap.Gather, p string, size int) {
	t.Helper()
	s, done, e := g.Add([]byte(p))
	if e != api.OK || done || told(s) != told(api.Snap{}) || g.Len() != size {
		t.Errorf("Add(%.30q): %.200s, %v, error %d; %d bytes are gathered, want %d", p, told(s), done, e, g.Len(), size)
	}
}

func wantDone(t *testing.T, g *snap.Gather, p string, want api.Snap) {
	t.Helper()
	s, done, e := g.Add([]byte(p))
	if e != api.OK || !done || told(s) != told(want) || g.Len() != 0 {
		t.Errorf("Add(%.30q): %.200s, %v, error %d; %d bytes are gathered; want %.200s", p, told(s), done, e, g.Len(), told(want))
	}
}

func wantNotAdded(t *testing.T, g *snap.Gather, what, p string, errno api.Errno, size int) {
	t.Helper()
	s, done, e := g.Add([]byte(p))
	if e != errno || done || told(s) != told(api.Snap{}) || g.Len() != size {
		t.Errorf("Add, %s: %.200s, %v, error %d; want error %d; %d bytes are gathered, want %d", what, told(s), done, e, errno, g.Len(), size)
	}
}

// P7.4, P7.5: pieces of every size, one behind the other, by one gatherer again and again.
func TestGather(t *testing.T) {
	g := snap.NewGather()
	if g == nil || g.Len() != 0 {
		t.Fatal("a new gatherer has bytes")
	}
	for _, s := range []api.Snap{snapshot(3, 2, "abc"), snapshot(1, 1, ""), snapshot(api.MaxNum, api.MaxNum, strings.Repeat("d", 400))} {
		b := string(put(t, s))
		for size := 1; size < len(b)+2; size++ {
			pieces := cut(t, b, size)
			for i, p := range pieces[:len(pieces)-1] {
				wantGathered(t, g, p, size*(i+1))
			}
			wantDone(t, g, pieces[len(pieces)-1], s)
		}
	}
	long := snapshot(5, 5, strings.Repeat("d", mostData))
	l := cut(t, string(put(t, long)), mostData)
	wantGathered(t, g, l[0], mostData)
	wantDone(t, g, l[1], long)
	most := strings.Repeat("\xff", api.MaxSnap)
	wantGathered(t, g, piece(api.MaxSnap, 0, most[1:]), api.MaxSnap-1)
	wantNotAdded(t, g, "MaxSnap bytes that are no snapshot's", piece(api.MaxSnap, api.MaxSnap-1, "x"), api.ErrLimit, 0)
}

// P7.4: pieces need not have one size.
func TestGatherOfAnySizes(t *testing.T) {
	s := snapshot(3, 2, "abc")
	b := string(put(t, s))
	g := snap.NewGather()
	wantGathered(t, g, piece(len(b), 0, b[:1]), 1)
	wantGathered(t, g, piece(len(b), 1, b[1:9]), 9)
	wantGathered(t, g, piece(len(b), 9, b[9:10]), 10)
	wantDone(t, g, piece(len(b), 10, b[10:]), s)
}

// wrongPieces are refused whatever was gathered, each with the error that is named first.
var wrongPieces = []struct {
	what, bytes string
	errno       api.Errno
}{
	{"nothing", "", api.ErrShort},
	{"one number", "\x03", api.ErrShort},
	{"a first number that is cut", "\x83", api.ErrShort},
	{"a second number that is cut", "\x03\x80", api.ErrShort},
	{"a first number that is not the shortest", "\x83\x00\x00ab", api.ErrForm},
	{"a second number that is not the shortest", "\x03\x80\x00ab", api.ErrForm},
	{"a first number above MaxNum", "\x81\x80\x80\x80\x80\x20\x00a", api.ErrLimit},
	{"a second number above MaxNum", "\x03\x81\x80\x80\x80\x80\x20a", api.ErrLimit},
	{"a first number above MaxSnap, without a second one", number(api.MaxSnap + 1), api.ErrShort},
	{"a first number above MaxSnap, the second one not the shortest", number(api.MaxSnap+1) + "\x80\x00a", api.ErrForm},
	{"a first number above MaxSnap", piece(api.MaxSnap+1, 0, "a"), api.ErrLimit},
	{"a first number of MaxNum", piece(api.MaxNum, 0, "a"), api.ErrLimit},
	{"a first number above MaxSnap without bytes", piece(api.MaxSnap+1, 0, ""), api.ErrLimit},
	{"a first number above MaxSnap and a place beyond", piece(api.MaxSnap+1, api.MaxNum, "a"), api.ErrLimit},
	{"as many bytes, and one more", piece(3, 0, "abcd"), api.ErrForm},
	{"a byte beyond", piece(3, 2, "cd"), api.ErrForm},
	{"a place at the end", piece(3, 3, "d"), api.ErrForm},
	{"a place beyond the end", piece(3, 4, "d"), api.ErrForm},
	{"a place of MaxNum", piece(3, api.MaxNum, "d"), api.ErrForm},
	{"no bytes", piece(3, 0, ""), api.ErrForm},
	{"no bytes of one", piece(1, 0, ""), api.ErrForm},
	{"no bytes further on", piece(3, 2, ""), api.ErrForm},
	{"no bytes at the end", piece(3, 3, ""), api.ErrForm},
	{"no bytes beyond the end", piece(3, 4, ""), api.ErrForm},
	{"a byte of none", piece(0, 0, "a"), api.ErrForm},
	{"a place of none", piece(0, 1, ""), api.ErrForm},
}

// P7.4: refused pieces change nothing: in the middle of pieces, which go on, and where there are none.
func TestNotAdded(t *testing.T) {
	s := snapshot(3, 2, "abc")
	b := string(put(t, s))
	pieces := cut(t, b, 3)
	g, fresh := snap.NewGather(), snap.NewGather()
	for i, p := range pieces {
		for _, w := range wrongPieces {
			wantNotAdded(t, g, w.what, w.bytes, w.errno, 3*i)
			wantNotAdded(t, fresh, w.what, w.bytes, w.errno, 0)
		}
		for at := 1; at < len(b); at++ {
			if at != 3*i {
				wantNotAdded(t, g, fmt.Sprintf("a piece of place %d behind %d pieces", at, i), piece(len(b), at, b[at:]), api.ErrStale, 3*i)
			}
			wantNotAdded(t, fresh, fmt.Sprintf("a piece of place %d first", at), piece(len(b), at, b[at:]), api.ErrStale, 0)
		}
		if i > 0 {
			wantNotAdded(t, g, "a piece of more bytes", piece(len(b)+1, 3*i, "x"), api.ErrStale, 3*i)
			wantNotAdded(t, g, "a piece of fewer bytes", piece(len(b)-1, 3*i, "x"), api.ErrStale, 3*i)
		}
		if i == len(pieces)-1 {
			wantDone(t, g, p, s)
			break
		}
		wantGathered(t, g, p, 3*(i+1))
		if i > 0 {
			wantNotAdded(t, g, "the same piece once more", p, api.ErrStale, 3*(i+1))
		}
	}
	wantNotAdded(t, g, "the last piece once more", pieces[len(pieces)-1], api.ErrStale, 0)
	if s, done, e := snap.NewGather().Add(nil); e != api.ErrShort || done || told(s) != told(api.Snap{}) {
		t.Errorf("Add(nil): error %d", e)
	}
}

// P7.4: a piece of place 0 begins anew, the same one and one of other bytes.
func TestBeginAnew(t *testing.T) {
	s, other := snapshot(3, 2, "abc"), snapshot(9, 9, "another one's data")
	b, x := string(put(t, s)), string(put(t, other))
	p, q := cut(t, b, 4), cut(t, x, 7)
	g := snap.NewGather()
	wantGathered(t, g, p[0], 4)
	wantGathered(t, g, p[0], 4)
	wantGathered(t, g, p[1], 8)
	wantGathered(t, g, q[0], 7)
	wantNotAdded(t, g, "a piece of what was forgotten", p[2], api.ErrStale, 7)
	for i, y := range q[1 : len(q)-1] {
		wantGathered(t, g, y, 7*(i+2))
	}
	wantDone(t, g, q[len(q)-1], other)
	wantGathered(t, g, q[0], 7)
	wantDone(t, g, piece(len(b), 0, b), s)
	wantNotAdded(t, g, "a piece of what was forgotten", q[1], api.ErrStale, 0)
}

// P7.4: with the last piece all is forgotten, also where it makes no snapshot.
func TestGatherNoSnapshot(t *testing.T) {
	b := string(put(t, snapshot(3, 2, "abc")))
	g := snap.NewGather()
	for _, c := range []struct {
		what, bytes string
		errno       api.Errno
	}{
		{"a byte too few", b[:len(b)-1], api.ErrShort},
		{"a byte behind", b + "x", api.ErrForm},
		{"another last byte", b[:len(b)-1] + "x", api.ErrSum},
		{"too long a frame", "\x00\x01\x00\x01" + b, api.ErrLimit},
		{"a frame that holds none", framed("\x00"), api.ErrForm},
	} {
		for size := 1; size < len(c.bytes)+2; size++ {
			l := cut(t, c.bytes, size)
			for i, p := range l[:len(l)-1] {
				wantGathered(t, g, p, size*(i+1))
			}
			wantNotAdded(t, g, c.what, l[len(l)-1], c.errno, 0)
			if len(l) > 1 {
				wantNotAdded(t, g, "the last piece once more", l[len(l)-1], api.ErrStale, 0)
			}
		}
	}
	wantNotAdded(t, g, "the piece of no bytes", piece(0, 0, ""), api.ErrShort, 0)
	wantGathered(t, g, piece(len(b), 0, b[:5]), 5)
	wantNotAdded(t, g, "the piece of no bytes", piece(0, 0, ""), api.ErrShort, 0)
	wantNotAdded(t, g, "a piece of what was forgotten", piece(len(b), 5, b[5:]), api.ErrStale, 0)
}

// P1, P7.4
func TestNilGather(t *testing.T) {
	var g *snap.Gather
	b := string(put(t, snapshot(3, 2, "abc")))
	for _, p := range []string{"", piece(3, 0, "a"), piece(api.MaxNum, 0, ""), piece(len(b), 0, b)} {
		wantNotAdded(t, g, "to nil", p, api.ErrNil, 0)
	}
}

// P3: pieces and gatherers.
func TestPiecesMemory(t *testing.T) {
	s := snapshot(3, 2, "abcdefgh")
	was := string(put(t, s))
	b := append([]byte(was), "spare"...)[:len(was)]
	l, e := snap.Pieces(b, 5)
	wantOK(t, e)
	want := fmt.Sprintf("%q", l)
	if string(b[:len(b)+5]) != was+"spare" {
		t.Error("Pieces changed what was handed in")
	}
	clear(b)
	if fmt.Sprintf("%q", l) != want {
		t.Error("pieces changed with what they are of")
	}
	for i := range l {
		l[i] = append(l[i], "more"...)[:len(l[i])]
	}
	if fmt.Sprintf("%q", l) != want {
		t.Error("pieces lie in one another")
	}
	g := snap.NewGather()
	for i, p := range l {
		spared := append([]byte(string(p)), "spare"...)[:len(p)]
		got, done, e := g.Add(spared)
		if string(spared[:len(p)+5]) != string(p)+"spare" {
			t.Error("Add changed what was handed in")
		}
		clear(spared[:len(p)+5])
		if e != api.OK || done != (i == len(l)-1) || done && told(got) != told(s) {
			t.Errorf("piece %d: %s, %v, error %d", i, told(got), done, e)
		}
	}
}

// P4 of gatherers: what is added to one is not added to another.
func TestTwoGathers(t *testing.T) {
	s := snapshot(3, 2, "abc")
	b := string(put(t, s))
	g, h := snap.NewGather(), snap.NewGather()
	wantGathered(t, g, piece(len(b), 0, b[:4]), 4)
	wantNotAdded(t, h, "a second piece first", piece(len(b), 4, b[4:]), api.ErrStale, 0)
	wantGathered(t, h, piece(len(b), 0, b[:2]), 2)
	wantDone(t, g, piece(len(b), 4, b[4:]), s)
	wantDone(t, h, piece(len(b), 2, b[2:]), s)
}
