package flight_test

import (
	"bytes"
	"math"
	"slices"
	"strings"
	"testing"

	"tollgate/api"
	"tollgate/flight"
)

var wrongNodes = []int{math.MinInt, -1, 0, api.MaxNode + 1, 256 + 1, math.MaxInt}

type link struct{ from, to int }

// wrongLinks are those of a node to itself, and of what is no node.
func wrongLinks() []link {
	all := []link{{0, 0}, {-1, -2}, {math.MaxInt, math.MinInt}}
	for n := 1; n <= api.MaxNode; n++ {
		all = append(all, link{n, n})
	}
	for _, n := range wrongNodes {
		all = append(all, link{n, 1}, link{1, n}, link{n, api.MaxNode}, link{api.MaxNode, n})
	}
	return all
}

func wantSent(t *testing.T, n *flight.Net, from, to int, b string, id int) {
	t.Helper()
	if got, e := n.Send(from, to, []byte(b)); e != api.OK || got != id {
		t.Fatalf("Send(%d, %d): %d, error %d; want %d", from, to, got, e, id)
	}
}

func wantNotSent(t *testing.T, n *flight.Net, from, to int, b []byte, errno api.Errno) {
	t.Helper()
	before := told(n)
	if id, e := n.Send(from, to, b); e != errno || id != 0 {
		t.Errorf("Send(%d, %d) of %d bytes: %d, error %d; want error %d", from, to, len(b), id, e, errno)
	}
	wantTold(t, n, before)
}

// filled has as many packets under way as may be, all from 1 to 2.
func filled(t *testing.T) *flight.Net {
	t.Helper()
	n := flight.New()
	for i := 1; i <= api.MaxFlight; i++ {
		wantSent(t, n, 1, 2, "x", i)
	}
	return n
}

func samePacket(a, b api.Packet) bool {
	return a.Id == b.Id && a.From == b.From && a.To == b.To && bytes.Equal(a.Bytes, b.Bytes)
}

// telling is all that a net tells without being changed.
type telling struct {
	under  []api.Packet
	count  int
	parted map[link]bool
	clocks []int
}

func told(n *flight.Net) telling {
	x := telling{under: n.Under(), count: n.Len(), parted: map[link]bool{}}
	for from := 1; from <= api.MaxNode; from++ {
		for to := 1; to <= api.MaxNode; to++ {
			x.parted[link{from, to}] = n.Parted(from, to)
		}
		x.clocks = append(x.clocks, n.Now(from))
	}
	return x
}

func wantTold(t *testing.T, n *flight.Net, want telling) {
	t.Helper()
	got := told(n)
	if !slices.EqualFunc(got.under, want.under, samePacket) || got.count != want.count {
		t.Errorf("under way are %d: %v; want %v", got.count, got.under, want.under)
	}
	for l, parted := range want.parted {
		if got.parted[l] != parted {
			t.Errorf("%v parted: %v; want %v", l, got.parted[l], parted)
		}
	}
	if !slices.Equal(got.clocks, want.clocks) {
		t.Errorf("clocks show %v; want %v", got.clocks, want.clocks)
	}
}

func wantUnder(t *testing.T, n *flight.Net, want ...api.Packet) {
	t.Helper()
	if got := n.Under(); !slices.EqualFunc(got, want, samePacket) || n.Len() != len(want) {
		t.Errorf("under way are %d: %v; want %v", n.Len(), got, want)
	}
}

func packet(id, from, to int, b string) api.Packet {
	return api.Packet{Id: id, From: from, To: to, Bytes: []byte(b)}
}

func TestNew(t *testing.T) {
	n := flight.New()
	wantUnder(t, n)
	for from := -1; from <= api.MaxNode+1; from++ {
		if n.Now(from) != 0 {
			t.Errorf("clock %d shows %d", from, n.Now(from))
		}
		for to := -1; to <= api.MaxNode+1; to++ {
			if n.Parted(from, to) {
				t.Errorf("%d to %d is parted", from, to)
			}
		}
	}
}

// P4.1, P4.2: the document's example.
func TestExample(t *testing.T) {
	n := flight.New()
	wantSent(t, n, 1, 2, "ab", 1)
	wantSent(t, n, 2, 1, "c", 2)
	if id, e := n.Double(0); id != 3 || e != api.OK {
		t.Errorf("Double(0): %d, error %d", id, e)
	}
	wantUnder(t, n, packet(1, 1, 2, "ab"), packet(2, 2, 1, "c"), packet(3, 1, 2, "ab"))
	if e := n.Part(1, 2); e != api.OK {
		t.Errorf("Part: error %d", e)
	}
	wantUnder(t, n, packet(2, 2, 1, "c"))
}

// P4.1
func TestSendOnEveryLink(t *testing.T) {
	n := flight.New()
	var want []api.Packet
	for from := 1; from <= api.MaxNode; from++ {
		for to := 1; to <= api.MaxNode; to++ {
			if from != to {
				wantSent(t, n, from, to, string([]byte{byte(from), byte(to)}), len(want)+1)
				want = append(want, packet(len(want)+1, from, to, string([]byte{byte(from), byte(to)})))
			}
		}
	}
	wantUnder(t, n, want...)
}

// P4.1: each error, and the order in which they are named.
func TestSendErrors(t *testing.T) {
	long := make([]byte, api.MaxFrame+1)
	n := flight.New()
	full := filled(t)
	parted, fullAndParted := flight.New(), filled(t)
	parted.Part(3, 4)
	fullAndParted.Part(3, 4)
	for _, l := range wrongLinks() {
		wantNotSent(t, n, l.from, l.to, nil, api.ErrArg)
		wantNotSent(t, n, l.from, l.to, long, api.ErrArg)
		wantNotSent(t, full, l.from, l.to, []byte("a"), api.ErrArg)
	}
	wantNotSent(t, n, 3, 4, long, api.ErrLimit)
	wantNotSent(t, full, 3, 4, nil, api.ErrLimit)
	wantNotSent(t, full, 1, 2, []byte("a"), api.ErrLimit)
	wantNotSent(t, parted, 3, 4, long, api.ErrLimit)
	wantNotSent(t, fullAndParted, 3, 4, []byte("a"), api.ErrLimit)
	wantNotSent(t, parted, 3, 4, []byte("a"), api.ErrGone)
	wantNotSent(t, parted, 3, 4, nil, api.ErrGone)
	wantNotSent(t, parted, 3, 4, long[1:], api.ErrGone)
}

// P4.1: what was refused had no number.
func TestRefusedHasNoNumber(t *testing.T) {
	n := flight.New()
	n.Part(1, 2)
	wantNotSent(t, n, 1, 2, nil, api.ErrGone)
	wantNotSent(t, n, 1, 1, nil, api.ErrArg)
	wantNotSent(t, n, 1, 3, make([]byte, api.MaxFrame+1), api.ErrLimit)
	wantSent(t, n, 1, 3, "", 1)
	full := filled(t)
	wantNotSent(t, full, 1, 3, nil, api.ErrLimit)
	if _, e := full.Double(0); e != api.ErrLimit {
		t.Errorf("Double of a full net: error %d", e)
	}
	full.Take(0)
	wantSent(t, full, 1, 3, "", api.MaxFlight+1)
}

// P4.1: MaxFrame bytes, and none.
func TestSendEdges(t *testing.T) {
	long := strings.Repeat("l", api.MaxFrame)
	n := flight.New()
	wantSent(t, n, 1, 9, long, 1)
	wantSent(t, n, 9, 1, "", 2)
	if id, e := n.Send(5, 4, nil); id != 3 || e != api.OK {
		t.Errorf("Send of nil: %d, error %d", id, e)
	}
	wantUnder(t, n, packet(1, 1, 9, long), packet(2, 9, 1, ""), packet(3, 5, 4, ""))
}

// P4.1
func TestTake(t *testing.T) {
	n := flight.New()
	for i, b := range []string{"a", "b", "c", "d"} {
		wantSent(t, n, i+1, i+2, b, i+1)
	}
	for _, c := range []struct {
		at   int
		want api.Packet
	}{
		{1, packet(2, 2, 3, "b")}, {2, packet(4, 4, 5, "d")}, {0, packet(1, 1, 2, "a")}, {0, packet(3, 3, 4, "c")},
	} {
		for _, i := range []int{math.MinInt, -1, n.Len(), n.Len() + 1, math.MaxInt} {
			before := told(n)
			if p, e := n.Take(i); e != api.ErrGone || !samePacket(p, api.Packet{}) {
				t.Errorf("Take(%d) of %d: %v, error %d", i, n.Len(), p, e)
			}
			wantTold(t, n, before)
		}
		if p, e := n.Take(c.at); e != api.OK || !samePacket(p, c.want) {
			t.Errorf("Take(%d): %v, error %d; want %v", c.at, p, e, c.want)
		}
	}
	if _, e := n.Take(0); e != api.ErrGone {
		t.Errorf("Take of an empty net: error %d", e)
	}
	wantSent(t, n, 1, 2, "e", 5)
}

// P4.1
func TestDouble(t *testing.T) {
	n := flight.New()
	wantSent(t, n, 1, 2, "a", 1)
	wantSent(t, n, 3, 4, "b", 2)
	for _, i := range []int{math.MinInt, -1, 2, 3, math.MaxInt} {
		before := told(n)
		if id, e := n.Double(i); e != api.ErrGone || id != 0 {
			t.Errorf("Double(%d): %d, error %d", i, id, e)
		}
		wantTold(t, n, before)
	}
	if id, e := n.Double(1); e != api.OK || id != 3 {
		t.Errorf("Double(1): %d, error %d", id, e)
	}
	wantUnder(t, n, packet(1, 1, 2, "a"), packet(2, 3, 4, "b"), packet(3, 3, 4, "b"))
	if id, e := n.Double(2); e != api.OK || id != 4 {
		t.Errorf("Double of a double: %d, error %d", id, e)
	}
}

// P4.1: the last one that may be, and one too many.
func TestDoubleUpToMaxFlight(t *testing.T) {
	n := filled(t)
	for _, c := range []struct {
		at    int
		errno api.Errno
	}{
		{-1, api.ErrGone}, {api.MaxFlight, api.ErrGone}, {0, api.ErrLimit}, {api.MaxFlight - 1, api.ErrLimit},
	} {
		before := told(n)
		if id, e := n.Double(c.at); e != c.errno || id != 0 {
			t.Errorf("Double(%d) of a full net: %d, error %d; want error %d", c.at, id, e, c.errno)
		}
		wantTold(t, n, before)
	}
	n.Take(5)
	if id, e := n.Double(0); e != api.OK || id != api.MaxFlight+1 || n.Len() != api.MaxFlight {
		t.Errorf("Double of a net with room for one: %d, error %d", id, e)
	}
}

// P4.2
func TestPartAndHeal(t *testing.T) {
	n := flight.New()
	wantSent(t, n, 1, 2, "a", 1)
	wantSent(t, n, 2, 1, "b", 2)
	wantSent(t, n, 1, 2, "c", 3)
	wantSent(t, n, 1, 3, "d", 4)
	wantSent(t, n, 3, 2, "e", 5)
	want := told(n)
	want.under = []api.Packet{packet(2, 2, 1, "b"), packet(4, 1, 3, "d"), packet(5, 3, 2, "e")}
	want.count = 3
	want.parted[link{1, 2}] = true
	for range 2 {
		if e := n.Part(1, 2); e != api.OK {
			t.Errorf("Part: error %d", e)
		}
		wantTold(t, n, want)
	}
	wantNotSent(t, n, 1, 2, nil, api.ErrGone)
	want.parted[link{1, 2}] = false
	for range 2 {
		if e := n.Heal(1, 2); e != api.OK {
			t.Errorf("Heal: error %d", e)
		}
		wantTold(t, n, want)
	}
	wantSent(t, n, 1, 2, "f", 6)
}

// P4.2
func TestPartAndHealErrors(t *testing.T) {
	n := flight.New()
	wantSent(t, n, 1, 2, "a", 1)
	n.Part(3, 4)
	before := told(n)
	for _, l := range wrongLinks() {
		if e := n.Part(l.from, l.to); e != api.ErrArg {
			t.Errorf("Part(%d, %d): error %d", l.from, l.to, e)
		}
		if n.Parted(l.from, l.to) {
			t.Errorf("%d to %d is parted, and no link", l.from, l.to)
		}
		if e := n.Heal(l.from, l.to); e != api.ErrArg {
			t.Errorf("Heal(%d, %d): error %d", l.from, l.to, e)
		}
	}
	wantTold(t, n, before)
}

// P4.3
func TestClocks(t *testing.T) {
	n := flight.New()
	for node := 1; node <= api.MaxNode; node++ {
		for tick := 1; tick <= node; tick++ {
			if x, e := n.Tick(node); e != api.OK || x != tick || n.Now(node) != tick {
				t.Errorf("Tick(%d): %d, error %d; now %d; want %d", node, x, e, n.Now(node), tick)
			}
		}
	}
	before := told(n)
	if !slices.Equal(before.clocks, []int{1, 2, 3, 4, 5, 6, 7, 8, 9}) {
		t.Errorf("clocks show %v", before.clocks)
	}
	for _, node := range wrongNodes {
		if x, e := n.Tick(node); e != api.ErrArg || x != 0 || n.Now(node) != 0 {
			t.Errorf("Tick(%d): %d, error %d; now %d", node, x, e, n.Now(node))
		}
	}
	wantTold(t, n, before)
}

// P1, P4.1 to P4.3: a nil net's errors are ErrNil ahead of all others.
func TestNilNet(t *testing.T) {
	var n *flight.Net
	for _, l := range append(wrongLinks(), link{1, 2}) {
		if id, e := n.Send(l.from, l.to, make([]byte, api.MaxFrame+1)); id != 0 || e != api.ErrNil {
			t.Errorf("Send: %d, error %d", id, e)
		}
		if e := n.Part(l.from, l.to); e != api.ErrNil {
			t.Errorf("Part: error %d", e)
		}
		if e := n.Heal(l.from, l.to); e != api.ErrNil {
			t.Errorf("Heal: error %d", e)
		}
		if n.Parted(l.from, l.to) {
			t.Error("Parted")
		}
	}
	for _, i := range []int{math.MinInt, -1, 0, 1, math.MaxInt} {
		if p, e := n.Take(i); e != api.ErrNil || !samePacket(p, api.Packet{}) {
			t.Errorf("Take: %v, error %d", p, e)
		}
		if id, e := n.Double(i); id != 0 || e != api.ErrNil {
			t.Errorf("Double: %d, error %d", id, e)
		}
		if x, e := n.Tick(i); x != 0 || e != api.ErrNil {
			t.Errorf("Tick: %d, error %d", x, e)
		}
		if n.Now(i) != 0 {
			t.Errorf("Now: %d", n.Now(i))
		}
	}
	if n.Len() != 0 || len(n.Under()) != 0 || n.Fork() != nil {
		t.Error("a nil net has something")
	}
}

// P4, P4.3: whatever is done to one of both, the other one stays as it was.
func TestFork(t *testing.T) {
	for _, turned := range []bool{false, true} {
		a := flight.New()
		wantSent(t, a, 1, 2, "a", 1)
		wantSent(t, a, 2, 3, "b", 2)
		wantSent(t, a, 3, 4, "c", 3)
		a.Take(0)
		a.Part(5, 6)
		a.Tick(7)
		b := a.Fork()
		wantTold(t, b, told(a))
		if turned {
			a, b = b, a
		}
		before := told(a)
		b.Part(6, 5)
		b.Heal(5, 6)
		b.Tick(7)
		b.Tick(8)
		wantSent(t, b, 5, 6, "d", 4)
		b.Double(0)
		if p, _ := b.Take(0); len(p.Bytes) == 1 {
			p.Bytes[0] = 'z'
		}
		b.Part(3, 4)
		wantTold(t, a, before)
		wantSent(t, a, 1, 2, "e", 4)
	}
}

// P3
func TestBytesAreLeftAlone(t *testing.T) {
	whole := []byte("abxx")
	n := flight.New()
	n.Send(1, 2, whole[:2])
	whole[0] = 'z'
	n.Double(0)
	n.Double(0)
	for range 2 {
		for _, p := range n.Under() {
			if string(p.Bytes) != "ab" {
				t.Errorf("under way is %q", p.Bytes)
			}
			spoil(p.Bytes)
		}
	}
	fork := n.Fork()
	p, _ := n.Take(1)
	spoil(p.Bytes)
	n.Double(0)
	wantUnder(t, n, packet(1, 1, 2, "ab"), packet(3, 1, 2, "ab"), packet(4, 1, 2, "ab"))
	wantUnder(t, fork, packet(1, 1, 2, "ab"), packet(2, 1, 2, "ab"), packet(3, 1, 2, "ab"))
	if string(whole) != "zbxx" {
		t.Errorf("what was sent became %q", whole)
	}
}

// spoil writes over a list, and over its spare room.
func spoil(b []byte) {
	b = b[:cap(b)]
	for i := range b {
		b[i] = '?'
	}
}

// P3: an answered list is not the kept one.
func TestUnderIsNew(t *testing.T) {
	n := flight.New()
	wantSent(t, n, 1, 2, "a", 1)
	wantSent(t, n, 1, 2, "b", 2)
	l := n.Under()
	l[0] = packet(9, 9, 9, "z")
	_ = append(l[:1], packet(9, 9, 9, "z"))
	wantUnder(t, n, packet(1, 1, 2, "a"), packet(2, 1, 2, "b"))
	l = n.Under()
	n.Take(0)
	n.Part(1, 2)
	if len(l) != 2 || !samePacket(l[0], packet(1, 1, 2, "a")) || !samePacket(l[1], packet(2, 1, 2, "b")) {
		t.Errorf("what was under way became %v", l)
	}
}
