package member_test

import (
	"bytes"
	"slices"
	"testing"

	"tollgate/api"
	"tollgate/member"
)

// P3.4
func TestMembersBytes(t *testing.T) {
	for _, c := range []struct {
		m     api.Members
		bytes string
	}{
		{api.Members{Voters: []int{1}}, "\x01\x01\x00"},
		{api.Members{Voters: []int{1}, Learners: []int{}}, "\x01\x01\x00"},
		{api.Members{Voters: []int{1}, Learners: []int{2}}, "\x01\x01\x01\x02"},
		{api.Members{Voters: []int{4, 9}, Learners: []int{1, 5, 7}}, "\x02\x04\x09\x03\x01\x05\x07"},
		{api.Members{Voters: everyNode}, "\x09\x01\x02\x03\x04\x05\x06\x07\x08\x09\x00"},
		{api.Members{Voters: everyNode[8:], Learners: everyNode[:8]}, "\x01\x09\x08\x01\x02\x03\x04\x05\x06\x07\x08"},
	} {
		if b, e := member.Put(c.m); e != api.OK || string(b) != c.bytes {
			t.Errorf("Put(%v): %x, error %d; want %x", c.m, b, e, c.bytes)
		}
		if m, e := member.Get([]byte(c.bytes)); e != api.OK || !same(m, c.m) {
			t.Errorf("Get(%x): %v, error %d; want %v", c.bytes, m, e, c.m)
		}
	}
	for _, w := range wrongMembers {
		if b, e := member.Put(w.m); e != api.ErrArg || len(b) != 0 {
			t.Errorf("Put, %s: %x, error %d", w.what, b, e)
		}
	}
}

func wantNoMembers(t *testing.T, what, b string, errno api.Errno) {
	t.Helper()
	if m, e := member.Get([]byte(b)); e != errno || len(m.Voters) != 0 || len(m.Learners) != 0 {
		t.Errorf("Get(%x), %s: %v, error %d; want error %d", b, what, m, e, errno)
	}
}

// P3.4
func TestNoMembersBytes(t *testing.T) {
	if m, e := member.Get(nil); e != api.ErrShort || len(m.Voters) != 0 || len(m.Learners) != 0 {
		t.Errorf("Get(nil): %v, error %d", m, e)
	}
	for _, c := range []struct {
		what, bytes string
		errno       api.Errno
	}{
		{"nothing", "", api.ErrShort},
		{"no voter's number", "\x01", api.ErrShort},
		{"a voter too few", "\x02\x01", api.ErrShort},
		{"no number of learners", "\x01\x01", api.ErrShort},
		{"a learner too few", "\x01\x01\x02\x02", api.ErrShort},
		{"a number that ends too early", "\x01\x81", api.ErrShort},
		{"more than MaxNode voters", "\x0a", api.ErrForm},
		{"more than MaxNode voters, all there", "\x0a\x01\x02\x03\x04\x05\x06\x07\x08\x09\x0a\x00", api.ErrForm},
		{"far more than MaxNode voters", "\x80\x80\x80\x80\x80\x20", api.ErrForm},
		{"more than MaxNode learners", "\x01\x01\x0a", api.ErrForm},
		{"far more than MaxNode learners", "\x01\x01\x80\x80\x80\x80\x80\x20", api.ErrForm},
		{"too many voters ahead of a number that is none", "\x0a\xff\xff\xff\xff\xff\xff", api.ErrForm},
		{"voters' number not the shortest", "\x81\x00\x01\x00", api.ErrForm},
		{"a voter not the shortest", "\x01\x81\x00\x00", api.ErrForm},
		{"a voter above MaxNum", "\x01\x81\x80\x80\x80\x80\x20\x00", api.ErrLimit},
		{"voters' number too long", "\xff\xff\xff\xff\xff\xff\x01", api.ErrLimit},
		{"a learner above MaxNum", "\x01\x01\x01\x81\x80\x80\x80\x80\x20", api.ErrLimit},
		{"a wrong voter ahead of an end too early", "\x02\x00", api.ErrShort},
		{"wrong voters ahead of a number above MaxNum", "\x02\x02\x01\x01\x81\x80\x80\x80\x80\x20", api.ErrLimit},
		{"wrong voters ahead of too few learners", "\x02\x02\x01\x01", api.ErrShort},
		{"no voter, and nothing behind", "\x00", api.ErrShort},
		{"no voter", "\x00\x00", api.ErrForm},
		{"learners alone", "\x00\x01\x01", api.ErrForm},
		{"voter 0", "\x01\x00\x00", api.ErrForm},
		{"voter MaxNode + 1", "\x01\x0a\x00", api.ErrForm},
		{"voter 257", "\x01\x81\x02\x00", api.ErrForm},
		{"voter MaxNum", "\x01\x80\x80\x80\x80\x80\x20\x00", api.ErrForm},
		{"voters fall", "\x02\x02\x01\x00", api.ErrForm},
		{"a voter twice", "\x02\x01\x01\x00", api.ErrForm},
		{"learner 0", "\x01\x01\x01\x00", api.ErrForm},
		{"learners fall", "\x01\x01\x02\x03\x02", api.ErrForm},
		{"one is both", "\x01\x01\x01\x01", api.ErrForm},
		{"more behind", "\x01\x01\x00\x00", api.ErrForm},
		{"a byte behind that is no number", "\x01\x01\x01\x02\xff", api.ErrForm},
	} {
		wantNoMembers(t, c.what, c.bytes, c.errno)
	}
}

// P3.8
func TestMembersAreGotAsPut(t *testing.T) {
	for _, m := range append(everyMembers(5), api.Members{Voters: []int{3, 9}, Learners: []int{1, 6, 7, 8}}) {
		b, e := member.Put(m)
		if e != api.OK {
			t.Fatalf("Put(%v): error %d", m, e)
		}
		if got, e := member.Get(b); e != api.OK || !same(got, m) {
			t.Errorf("Get(Put(%v)): %v, error %d", m, got, e)
		}
		for n := range b {
			wantNoMembers(t, "cut short", string(b[:n]), api.ErrShort)
		}
		wantNoMembers(t, "with a byte behind", string(b)+"\x00", api.ErrForm)
	}
}

// P3.8: what is got is put as the same bytes, so bytes of no members are refused.
func TestNoOtherBytesAreMembers(t *testing.T) {
	for code := range 1 << 20 {
		b := []byte{byte(code >> 16 & 15), byte(code >> 12 & 15), byte(code >> 8 & 15), byte(code >> 4 & 15), byte(code & 15)}
		m, e := member.Get(b)
		if e != api.OK {
			continue
		}
		if again, e := member.Put(m); e != api.OK || !bytes.Equal(again, b) {
			t.Fatalf("Get(%x): %v, whose bytes are %x, error %d", b, m, again, e)
		}
	}
}

// P3.4, P3.8
func TestChangeBytes(t *testing.T) {
	for do := api.Add; do <= api.Remove; do++ {
		for n := 1; n <= api.MaxNode; n++ {
			c := api.Change{Do: do, Node: n}
			want := []byte{byte(do), byte(n)}
			if b, e := member.PutChange(c); e != api.OK || !bytes.Equal(b, want) {
				t.Errorf("PutChange(%v): %x, error %d", c, b, e)
			}
			if got, e := member.GetChange(want); e != api.OK || got != c {
				t.Errorf("GetChange(%x): %v, error %d", want, got, e)
			}
		}
		for _, n := range wrongNodes {
			wantNoChangePut(t, api.Change{Do: do, Node: n})
		}
	}
	for _, do := range wrongDos {
		wantNoChangePut(t, api.Change{Do: do, Node: 1})
	}
}

func wantNoChangePut(t *testing.T, c api.Change) {
	t.Helper()
	if b, e := member.PutChange(c); e != api.ErrArg || len(b) != 0 {
		t.Errorf("PutChange(%v): %x, error %d", c, b, e)
	}
}

// P3.4
func TestNoChangeBytes(t *testing.T) {
	for _, c := range []struct {
		bytes string
		errno api.Errno
	}{
		{"", api.ErrShort}, {"\x01", api.ErrShort}, {"\x81", api.ErrShort}, {"\x01\x81", api.ErrShort},
		{"\x00", api.ErrShort}, {"\x05", api.ErrShort},
		{"\x81\x00\x01", api.ErrForm}, {"\x01\x81\x00", api.ErrForm},
		{"\x81\x80\x80\x80\x80\x20\x01", api.ErrLimit}, {"\x01\x81\x80\x80\x80\x80\x20", api.ErrLimit},
		{"\x00\xff\xff\xff\xff\xff\xff", api.ErrLimit}, {"\xff\xff\xff\xff\xff\xff\x01", api.ErrLimit},
		{"\x00\x01", api.ErrForm}, {"\x05\x01", api.ErrForm}, {"\x81\x02\x01", api.ErrForm}, {"\x80\x80\x80\x80\x80\x20\x01", api.ErrForm},
		{"\x01\x00", api.ErrForm}, {"\x01\x0a", api.ErrForm}, {"\x01\x81\x02", api.ErrForm},
		{"\x01\x01\x00", api.ErrForm}, {"\x04\x09\xff", api.ErrForm},
	} {
		if x, e := member.GetChange([]byte(c.bytes)); e != c.errno || x != (api.Change{}) {
			t.Errorf("GetChange(%x): %v, error %d; want error %d", c.bytes, x, e, c.errno)
		}
	}
	if x, e := member.GetChange(nil); e != api.ErrShort || x != (api.Change{}) {
		t.Errorf("GetChange(nil): %v, error %d", x, e)
	}
}

// roomy is a list in which more stands behind the end, and all of it.
func roomy[T any](behind T, l ...T) (list, whole []T) {
	whole = append(slices.Clone(l), behind, behind, behind, behind)
	return whole[:len(l)], whole
}

// P3: what is handed in stays as it is, behind its end too, and no answer lies in it or in another one.
func TestMembersAreLeftAlone(t *testing.T) {
	voters, allVoters := roomy(77, 1, 3, 5)
	learners, allLearners := roomy(77, 2, 6)
	yes, allYes := roomy(77, 3, 1)
	places, allPlaces := roomy(api.At{Node: 77}, api.At{Node: 5, Index: 3}, api.At{Node: 1, Index: 4})
	m := api.Members{Voters: voters, Learners: learners}
	b, _ := member.Put(m)
	bytesOf, allBytes := roomy(77, b...)

	for range 2 {
		spoil(member.All(m))
		for do := api.Add; do <= api.Remove; do++ {
			for n := 1; n <= api.MaxNode; n++ {
				x, _ := member.Apply(m, api.Change{Do: do, Node: n})
				spoil(x.Voters)
				spoil(x.Learners)
			}
		}
		got, _ := member.Get(bytesOf)
		if !same(got, m) {
			t.Fatalf("Get: %v", got)
		}
		spoil(got.Voters)
		spoil(got.Learners)
		put, _ := member.Put(m)
		if !bytes.Equal(put, b) {
			t.Fatalf("Put: %x", put)
		}
		spoil(put)
		if !member.Quorum(m, yes) || member.Agreed(m, places) != 3 || !member.Voter(m, 5) || !member.Right(m) {
			t.Fatal("another answer to the same question")
		}
	}
	if !slices.Equal(allVoters, []int{1, 3, 5, 77, 77, 77, 77}) || !slices.Equal(allLearners, []int{2, 6, 77, 77, 77, 77}) {
		t.Errorf("members became %v, %v", allVoters, allLearners)
	}
	if !slices.Equal(allYes, []int{3, 1, 77, 77, 77, 77}) || !bytes.Equal(allBytes, append(slices.Clone(b), 77, 77, 77, 77)) {
		t.Errorf("voices became %v, bytes %x", allYes, allBytes)
	}
	if allPlaces[0] != (api.At{Node: 5, Index: 3}) || allPlaces[1] != (api.At{Node: 1, Index: 4}) || allPlaces[2] != (api.At{Node: 77}) {
		t.Errorf("places became %v", allPlaces)
	}
}

// P3: no two lists of one answer lie in one another.
func TestAnswersShareNothing(t *testing.T) {
	m := api.Members{Voters: []int{1, 3, 5}, Learners: []int{2, 6}}
	x, _ := member.Apply(m, api.Change{Do: api.Promote, Node: 6})
	spoil(x.Voters)
	if !slices.Equal(x.Learners, []int{2}) {
		t.Errorf("learners became %v with the voters", x.Learners)
	}
	b, _ := member.Put(m)
	got, _ := member.Get(b)
	spoil(got.Voters)
	if !slices.Equal(got.Learners, []int{2, 6}) {
		t.Errorf("learners became %v with the voters", got.Learners)
	}
}

// spoil writes over a list, and over its spare room.
func spoil[T int | byte](l []T) {
	l = l[:cap(l)]
	for i := range l {
		l[i] = 99
	}
}
