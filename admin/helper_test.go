package admin_test

import (
	"fmt"
	"math"
	"slices"
	"testing"

	"tollgate/admin"
	"tollgate/api"
	"tollgate/conf"
)

const roomy = 1 << 20

// chance is a row of numbers that is the same each time.
type chance uint64

func (c *chance) below(n int) int {
	*c = *c*6364136223846793005 + 1442695040888963407
	return int(uint64(*c) >> 33 % uint64(n))
}

// oneOf is true once in so many times.
func (c *chance) oneOf(n int) bool { return c.below(n) == 0 }

// shown tells a list that is nil as one that is empty.
func shown(x any) string { return fmt.Sprintf("%+v", x) }

func want(t *testing.T, what string, got, want any) {
	t.Helper()
	if shown(got) != shown(want) {
		t.Errorf("%s:\n%s\nwant\n%s", what, shown(got), shown(want))
	}
}

func wantOK(t *testing.T, e api.Errno) {
	t.Helper()
	if e != api.OK {
		t.Fatalf("error %d", e)
	}
}

// wantBoth holds a number and an error against what they should be.
func wantBoth(t *testing.T, what string, n int, e api.Errno, number int, should api.Errno) {
	t.Helper()
	if n != number || e != should {
		t.Errorf("%s: %d and error %d; want %d and %d", what, n, e, number, should)
	}
}

func made(t *testing.T, nodes, room int) *admin.Desk {
	t.Helper()
	d, e := admin.New(nodes, room)
	if d == nil || e != api.OK {
		t.Fatalf("New(%d, %d): error %d", nodes, room, e)
	}
	return d
}

func putPool(name string) api.Command {
	return api.Command{Act: api.PutPool, Expect: -1, Pool: name, Targets: []api.Target{{Addr: name + ":1", Weight: 1}}}
}

func op(c api.Command) api.Op { return api.Op{Command: c} }

func look() api.Op { return api.Op{Look: true} }

// by is a command as a desk keeps it.
func by(client, seq int, c api.Command) api.Command {
	c.Client, c.Seq = client, seq
	return c
}

func tick(n int) api.Step { return api.Step{Kind: api.Tick, Node: n} }

// deliver has who begins to wait by it wait long.
func deliver(at int) api.Step { return api.Step{Kind: api.Deliver, At: at, Draw: 9} }

func crash(n int) api.Step { return api.Step{Kind: api.Crash, Node: n} }

func start(n int) api.Step { return api.Step{Kind: api.Start, Node: n, Draw: 9} }

// cut parts all links of a node, or heals them.
func cut(d *admin.Desk, kind api.StepKind, node, nodes int) {
	for n := 1; n <= nodes; n++ {
		if n != node {
			d.Do(api.Step{Kind: kind, Node: node, To: n})
			d.Do(api.Step{Kind: kind, Node: n, To: node})
		}
	}
}

// settle delivers until nothing is under way.
func settle(d *admin.Desk) {
	for d.Do(deliver(0)).E != api.ErrGone {
	}
}

// leads has a node's time run out, and all be delivered; others have heard of no leader by then.
func leads(t *testing.T, d *admin.Desk, n int) {
	t.Helper()
	settle(d)
	for other := 1; other <= api.MaxNodes; other++ {
		for range api.Quiet {
			if other != n {
				d.Do(tick(other))
			}
		}
	}
	for range 2 * api.Quiet {
		if d.Leader() == n {
			return
		}
		d.Do(tick(n))
		settle(d)
	}
	t.Fatalf("%d leads, and not %d", d.Leader(), n)
}

func asked(t *testing.T, d *admin.Desk, client int, o api.Op) int {
	t.Helper()
	n, e := d.Ask(client, o)
	if n < 1 || e != api.OK {
		t.Fatalf("Ask(%d, %+v): %d, error %d", client, o, n, e)
	}
	return n
}

func tried(t *testing.T, d *admin.Desk, number, node int) {
	t.Helper()
	if n, e := d.Try(number, node); n != 0 || e != api.OK {
		t.Fatalf("Try(%d, %d): %d, error %d", number, node, n, e)
	}
}

func record(d *admin.Desk, number int) api.Record { return d.History()[number-1] }

// whole is all that can be seen of a desk of so many nodes.
func whole(d *admin.Desk, nodes int) string {
	all := shown(d.History()) + "\n" + shown(d.Log()) + "\n" + shown(d.Leader())
	for n := -1; n <= nodes+1; n++ {
		all += "\n" + shown(d.Config(n))
	}
	return all
}

// explained: Judge has nothing against a desk's history.
func explained(t *testing.T, d *admin.Desk) {
	t.Helper()
	l := d.History()
	if place, e := admin.Judge(l, d.Log()...); place != 0 || e != api.OK {
		t.Fatalf("Judge: %d, error %d, of\n%+v\nand\n%+v", place, e, l, d.Log())
	}
}

// entry is a command's of term 1.
func entry(t *testing.T, index int, c api.Command) api.Entry {
	t.Helper()
	b, e := conf.PutCommand(c)
	wantOK(t, e)
	return api.Entry{Kind: api.Data, Term: 1, Index: index, Data: b}
}

func noop(term, index int) api.Entry { return api.Entry{Kind: api.Noop, Term: term, Index: index} }

// spare is a list with others behind its end, which nobody may look at or write to.
func spare[T any](l []T, behind ...T) []T { return append(slices.Clone(l), behind...)[:len(l)] }

func spoilEntries(l []api.Entry) {
	for _, x := range l {
		b := x.Data[:cap(x.Data)]
		for i := range b {
			b[i] ^= 0x55
		}
	}
	clear(l[:cap(l)])
}

func spoilConfig(c api.Config) {
	for _, p := range c.Pools {
		clear(p.Targets[:cap(p.Targets)])
	}
	clear(c.Pools[:cap(c.Pools)])
	clear(c.Routes[:cap(c.Routes)])
}

func spoilRecords(l []api.Record) {
	for _, r := range l {
		clear(r.Op.Command.Targets[:cap(r.Op.Command.Targets)])
		spoilConfig(r.Config)
	}
	clear(l[:cap(l)])
}

func spoilTold(x api.Told) {
	clear(x.Done[:cap(x.Done)])
	clear(x.Reads[:cap(x.Reads)])
	spoilEntries(x.Log)
}

// strange are numbers of all sizes.
func strange() []int {
	return []int{math.MinInt, math.MinInt + 1, -2, -1, 0, 1, 2, 3, api.MaxClient, api.MaxClient + 1, api.MaxNum, math.MaxInt - 1, math.MaxInt}
}
