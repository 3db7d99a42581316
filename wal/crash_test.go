package wal_test

import (
	"math"
	"slices"
	"strings"
	"testing"

	"tollgate/api"
	"tollgate/disk"
	"tollgate/frame"
	"tollgate/wal"
)

// chance is a row of numbers that is the same each time.
type chance uint64

func (c *chance) below(n int) int {
	*c = *c*6364136223846793005 + 1442695040888963407
	return int(uint64(*c) >> 33 % uint64(n))
}

// P6.5: the document's second example.
func TestCrashExample(t *testing.T) {
	d := disk.New(roomy)
	l := open(t, d)
	wantOK(t, l.Append(row(1, 1, 3)...))
	wantOK(t, l.Sync())
	wantOK(t, l.Append(row(2, 3, 2)...))
	whole := d.Fork()
	d.Crash(nil)
	wantTold(t, open(t, d), api.Mark{}, api.Hard{}, row(1, 1, 3)...)
	whole.Crash([]int{math.MaxInt})
	wantTold(t, open(t, whole), api.Mark{}, api.Hard{}, append(row(1, 1, 2), row(2, 3, 2)...)...)
}

// plain is a log as lists: what it is, and what it was behind each record since the last sync.
type plain struct {
	base   api.Mark
	hard   api.Hard
	es     []api.Entry
	behind []string
	bytes  []int // behind how many unsynced bytes that was
}

func (p *plain) told() string { return content(p.base, p.hard, p.es) }

func (p *plain) synced() { p.behind, p.bytes = []string{p.told()}, []int{0} }

func (p *plain) recorded(record string) {
	p.bytes = append(p.bytes, p.bytes[len(p.bytes)-1]+len(record))
	p.behind = append(p.behind, p.told())
}

func (p *plain) add(es ...api.Entry) {
	for _, x := range es {
		p.es = append(slices.Clone(p.es[:x.Index-p.base.Index-1]), x)
		p.recorded(entryRecord(x))
	}
}

// left is what a crash leaves that keeps so many bytes.
func (p *plain) left(units int) string {
	last := 0
	for i, n := range p.bytes {
		if n <= units {
			last = i
		}
	}
	return p.behind[last]
}

// step does the same to both.
func (p *plain) step(t *testing.T, l *wal.Log, c *chance) {
	t.Helper()
	last := p.base.Index + len(p.es)
	switch c.below(10) {
	case 0, 1:
		wantOK(t, l.Sync())
		p.synced()
	case 2, 3:
		h := api.Hard{Term: c.below(400), Vote: c.below(4)}
		wantOK(t, l.SetHard(h))
		if h != p.hard {
			p.hard = h
			p.recorded(hardRecord(h))
		}
	case 4:
		index := p.base.Index + c.below(len(p.es)+1)
		wantOK(t, l.Compact(index))
		if index > p.base.Index {
			i := index - p.base.Index
			p.base, p.es = api.Mark{Index: index, Term: p.es[i-1].Term}, p.es[i:]
			p.synced()
		}
	case 5:
		if c.below(4) == 0 {
			p.base, p.es = api.Mark{Index: c.below(300), Term: c.below(300)}, nil
			wantOK(t, l.Reset(p.base))
			p.synced()
		}
	default:
		var es []api.Entry
		first := last + 1 - c.below(min(len(p.es), 3)+1)
		for i := range c.below(5) {
			es = append(es, entry(1+c.below(200), first+i, strings.Repeat("d", c.below(9))))
		}
		wantOK(t, l.Append(es...))
		p.add(es...)
	}
}

// P6.5, P6.6, P5.5: after each step of long scripts, opened again as it is, and behind crashes that keep less and less.
func TestCrashScript(t *testing.T) {
	for seed := range 25 {
		c := chance(seed)
		d := disk.New(roomy)
		l, p := open(t, d), &plain{}
		p.synced()
		for i := range 120 {
			p.step(t, l, &c)
			if told(l) != p.told() || told(open(t, d.Fork())) != p.told() {
				t.Fatalf("seed %d, step %d: %s\nopened again %s\nwant %s", seed, i, told(l), told(open(t, d.Fork())), p.told())
			}
			for _, units := range p.crashes() {
				f := d.Fork()
				f.Crash([]int{units})
				if got := told(open(t, f)); got != p.left(units) {
					t.Fatalf("seed %d, step %d, %d units kept: %s\nwant %s", seed, i, units, got, p.left(units))
				}
			}
			if c.below(15) == 0 {
				units := c.below(p.bytes[len(p.bytes)-1] + 2)
				want := p.left(units)
				d.Crash([]int{units})
				l = open(t, d)
				p.base, p.hard, p.es = l.Base(), l.Hard(), l.Entries(math.MinInt, math.MaxInt)
				if p.told() != want {
					t.Fatalf("seed %d, step %d: gone on from %s; want %s", seed, i, p.told(), want)
				}
				p.synced()
			}
		}
	}
}

// crashes are numbers of units: around each record's end, and past all.
func (p *plain) crashes() []int {
	all := []int{-1, math.MaxInt}
	for _, n := range p.bytes {
		all = append(all, n-1, n, n+1, n+8, n+9)
	}
	return all
}

// P6.7: the steps of writing anew, one behind the other on a disk, and a crash behind each: the log is the elder one or the newer one.
func TestCrashWhileAnew(t *testing.T) {
	h := api.Hard{Term: 3, Vote: 2}
	elder := whole(api.Mark{}, h, row(1, 1, 4)...)
	newer := whole(api.Mark{Index: 2, Term: 1}, h, row(1, 3, 2)...)
	was, is := content(api.Mark{}, h, row(1, 1, 4)), content(api.Mark{Index: 2, Term: 1}, h, row(1, 3, 2))
	for units := range len(newer) + 2 {
		d := planted(t, "wal-1", elder)
		for _, step := range []struct {
			do   func() api.Errno
			want string
		}{
			{func() api.Errno { return d.Write("wal.tmp", 0, []byte(newer)) }, was},
			{func() api.Errno { return d.Sync("wal.tmp") }, was},
			{func() api.Errno { return d.Rename("wal.tmp", "wal-2") }, is},
			{func() api.Errno { return d.Remove("wal-1") }, is},
		} {
			wantOK(t, step.do())
			f := d.Fork()
			f.Crash([]int{units, units})
			if got := told(open(t, f)); got != step.want {
				t.Fatalf("%d units kept: %s\nwant %s", units, got, step.want)
			}
			if len(f.Names()) != 1 {
				t.Fatalf("names are %q", f.Names())
			}
		}
	}
}

// P6.7, P6.5: behind Compact and Reset no crash takes anything, not even what was never synced ahead of them.
func TestCrashBehindAnew(t *testing.T) {
	for _, units := range []int{math.MinInt, 0, 1, 30, math.MaxInt} {
		d := disk.New(roomy)
		l := open(t, d)
		wantOK(t, l.Append(row(1, 1, 4)...))
		wantOK(t, l.SetHard(api.Hard{Term: 9}))
		wantOK(t, l.Compact(2))
		d.Crash([]int{units})
		wantTold(t, open(t, d), api.Mark{Index: 2, Term: 1}, api.Hard{Term: 9}, row(1, 3, 2)...)
		l = open(t, d)
		wantOK(t, l.SetHard(api.Hard{Term: 10}))
		wantOK(t, l.Reset(api.Mark{Index: 50, Term: 6}))
		d.Crash([]int{units})
		wantTold(t, open(t, d), api.Mark{Index: 50, Term: 6}, api.Hard{Term: 10})
	}
}

// P6.6: opening changes neither the file nor the log, however often.
func TestOpenAgain(t *testing.T) {
	d := disk.New(roomy)
	l := open(t, d)
	wantOK(t, l.Append(row(1, 1, 4)...))
	wantOK(t, l.Append(row(2, 2, 1)...))
	wantOK(t, l.SetHard(api.Hard{Term: 9, Vote: 9}))
	b, _ := d.Read("wal-1")
	for range 3 {
		again := open(t, d)
		if told(again) != told(l) || again.File() != l.File() {
			t.Errorf("%s: %s\nwant %s: %s", again.File(), told(again), l.File(), told(l))
		}
		wantFile(t, again, d, "wal-1", string(b))
		d.Crash(nil)
	}
	if held, end := frame.All(b); end != len(b) || len(held) != 8 {
		t.Errorf("%d records up to %d of %d", len(held), end, len(b))
	}
}
