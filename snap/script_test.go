package snap_test

import (
	"math"
	"strings"
	"testing"

	"tollgate/api"
	"tollgate/disk"
	"tollgate/snap"
)

// chance is a row of numbers that is the same each time.
type chance uint64

func (c *chance) below(n int) int {
	*c = *c*6364136223846793005 + 1442695040888963407
	return int(uint64(*c) >> 33 % uint64(n))
}

// P7.4: pieces of three snapshots in any order, some twice, beside a plain row of bytes.
func TestGatherScript(t *testing.T) {
	c := chance(11)
	var all []api.Snap
	var rows, pieces []string
	for i := range 3 {
		s := snapshot(i+1, 5, strings.Repeat("d", i/2))
		all = append(all, s)
		rows = append(rows, string(put(t, s)))
		pieces = append(pieces, cut(t, rows[i], 5)...)
		pieces = append(pieces, cut(t, rows[i], 8)...)
	}
	g := snap.NewGather()
	gathered, whole, done := "", 0, 0
	next := 0
	for range 200000 {
		p := pieces[next]
		size, place, b := int(p[0]), int(p[1]), p[2:]
		if place == 0 {
			gathered, whole = "", size
		}
		switch {
		case size != whole || place != len(gathered):
			wantNotAdded(t, g, "out of turn", p, api.ErrStale, len(gathered))
		case place+len(b) < size:
			gathered += b
			wantGathered(t, g, p, len(gathered))
		default:
			wantRow(t, g, p, gathered+b, all, rows)
			gathered, whole = "", 0
			done++
		}
		next = (next + 1) % len(pieces)
		if c.below(6) == 0 {
			next = c.below(len(pieces))
		}
	}
	if done < 1000 {
		t.Errorf("only %d snapshots were gathered", done)
	}
}

// wantRow: the last piece makes one of the snapshots, or what Get says of a mixture of two.
func wantRow(t *testing.T, g *snap.Gather, p, b string, all []api.Snap, rows []string) {
	t.Helper()
	for i, row := range rows {
		if b == row {
			wantDone(t, g, p, all[i])
			return
		}
	}
	wantNotAdded(t, g, "a mixture", p, api.ErrSum, 0)
}

// P1: any bytes are a snapshot's or a piece, or are refused.
func TestAnyBytes(t *testing.T) {
	c := chance(13)
	g := snap.NewGather()
	for range 100000 {
		b := make([]byte, c.below(14))
		for i := range b {
			b[i] = byte(c.below(256)) >> c.below(9)
		}
		before := g.Len()
		s, done, e := g.Add(b)
		if done || told(s) != told(api.Snap{}) || g.Len() < 0 || e == api.ErrArg || e == api.ErrNil || e == api.ErrStale && g.Len() != before {
			t.Fatalf("Add(%x): %s, %v, error %d, %d bytes behind %d", b, told(s), done, e, g.Len(), before)
		}
		if s, e := snap.Get(b); e == api.OK || e == api.ErrArg || told(s) != told(api.Snap{}) {
			t.Fatalf("Get(%x): %s, error %d", b, told(s), e)
		}
		snap.Get([]byte(framed(string(b))))
	}
}

// P7.2, P7.6, P7.7, E3: snapshots saved in any order, with crashes between, beside the greatest one that was saved.
func TestSaveScript(t *testing.T) {
	for seed := range 40 {
		c := chance(seed)
		d := disk.New(260)
		best := api.Snap{}
		for range 200 {
			s := snapshot(1+c.below(300), 1+c.below(9), strings.Repeat("d", c.below(90)))
			if c.below(20) == 0 {
				s.Members.Voters = nil
			}
			e := snap.Save(d, s)
			if e == api.OK && s.Mark.Index >= best.Mark.Index {
				best = s
			}
			if c.below(30) == 0 && best.Mark.Index > 0 {
				wantOK(t, d.Remove(fileName(best.Mark.Index)))
				best = greatest(t, d)
			}
			if c.below(3) == 0 {
				d.Crash([]int{c.below(9) - 1, math.MaxInt, c.below(9)})
			}
			wantNewest(t, d, best)
			wantNoSpare(t, d)
		}
	}
}

// greatest goes through all files by hand.
func greatest(t *testing.T, d *disk.Disk) api.Snap {
	t.Helper()
	best := api.Snap{}
	for _, name := range d.Names() {
		b, e := d.Read(name)
		wantOK(t, e)
		s, e := snap.Get(b)
		wantOK(t, e)
		if name != fileName(s.Mark.Index) {
			t.Errorf("%s holds a snapshot of %d", name, s.Mark.Index)
		}
		if s.Mark.Index > best.Mark.Index {
			best = s
		}
	}
	return best
}
