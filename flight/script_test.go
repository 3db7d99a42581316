package flight_test

import (
	"slices"
	"testing"

	"tollgate/api"
	"tollgate/flight"
)

// chance is a row of numbers that is the same each time.
type chance uint64

func (c *chance) below(n int) int {
	*c = *c*6364136223846793005 + 1442695040888963407
	return int(uint64(*c) >> 33 % uint64(n))
}

// P4.4 to P4.6: a long script beside a plain list of what must be under way.
func TestScript(t *testing.T) {
	for seed := range 20 {
		c := chance(seed)
		n := flight.New()
		model := script{parted: map[link]bool{}}
		for range 2000 {
			model.step(t, n, &c)
			wantUnder(t, n, model.under...)
			wantRises(t, n)
			wantNothingOnParted(t, n)
			if t.Failed() {
				t.FailNow()
			}
		}
	}
}

type script struct {
	under  []api.Packet
	last   int
	parted map[link]bool
}

func (s *script) step(t *testing.T, n *flight.Net, c *chance) {
	t.Helper()
	l := link{c.below(4) + 1, c.below(4) + 1}
	if l.from == l.to {
		l.to = 5
	}
	i := c.below(len(s.under) + 1)
	switch c.below(20) {
	case 0:
		n.Part(l.from, l.to)
		s.parted[l] = true
		s.under = slices.DeleteFunc(s.under, func(p api.Packet) bool { return p.From == l.from && p.To == l.to })
	case 1, 2:
		n.Heal(l.from, l.to)
		s.parted[l] = false
	case 3, 4, 5, 6, 7:
		s.take(t, n, i)
	case 8, 9, 10:
		id, e := n.Double(i)
		if i < len(s.under) && len(s.under) < api.MaxFlight {
			s.launch(t, s.under[i], id, e)
		} else if e == api.OK {
			t.Errorf("Double(%d) of %d", i, len(s.under))
		}
	default:
		b := string([]byte{byte(c.below(256)), byte(c.below(256))})
		id, e := n.Send(l.from, l.to, []byte(b))
		if !s.parted[l] && len(s.under) < api.MaxFlight {
			s.launch(t, packet(0, l.from, l.to, b), id, e)
		} else if e == api.OK {
			t.Errorf("Send on %v with %d under way", l, len(s.under))
		}
	}
}

func (s *script) take(t *testing.T, n *flight.Net, i int) {
	t.Helper()
	p, e := n.Take(i)
	if i == len(s.under) {
		if e != api.ErrGone {
			t.Errorf("Take(%d) of %d: error %d", i, len(s.under), e)
		}
		return
	}
	if e != api.OK || !samePacket(p, s.under[i]) {
		t.Errorf("Take(%d): %v, error %d; want %v", i, p, e, s.under[i])
	}
	s.under = slices.Delete(s.under, i, i+1)
}

func (s *script) launch(t *testing.T, p api.Packet, id int, e api.Errno) {
	t.Helper()
	s.last++
	if e != api.OK || id != s.last {
		t.Errorf("number %d, error %d; want %d", id, e, s.last)
	}
	p.Id = s.last
	s.under = append(s.under, p)
}

// P4.5
func wantRises(t *testing.T, n *flight.Net) {
	t.Helper()
	last := 0
	for _, p := range n.Under() {
		if p.Id <= last {
			t.Errorf("number %d stands behind %d", p.Id, last)
		}
		last = p.Id
	}
}

// P4.6
func wantNothingOnParted(t *testing.T, n *flight.Net) {
	t.Helper()
	for _, p := range n.Under() {
		if n.Parted(p.From, p.To) {
			t.Errorf("%v is under way on a parted link", p)
		}
	}
}
