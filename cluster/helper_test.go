package cluster_test

import (
	"fmt"
	"math"
	"slices"
	"testing"

	"tollgate/api"
	"tollgate/cluster"
	"tollgate/wire"
)

const (
	roomy   = 1 << 20
	logSize = 22 // bytes of an empty log: in less room no node opens
)

// chance is a row of numbers that is the same each time.
type chance uint64

func (c *chance) below(n int) int {
	*c = *c*6364136223846793005 + 1442695040888963407
	return int(uint64(*c) >> 33 % uint64(n))
}

// oneOf is true once in so many times.
func (c *chance) oneOf(n int) bool { return c.below(n) == 0 }

func (c *chance) aDraw() int {
	draws := []int{0, -1, math.MaxInt, math.MinInt, 9, 10, c.below(100), c.below(100), c.below(100) - 200}
	return draws[c.below(len(draws))]
}

// shown tells a list that is nil as one that is empty.
func shown(x any) string { return fmt.Sprintf("%+v", x) }

func want(t *testing.T, what string, got, want any) {
	t.Helper()
	if shown(got) != shown(want) {
		t.Errorf("%s:\n%s\nwant\n%s", what, shown(got), shown(want))
	}
}

func wantOK(t *testing.T, e api.Errno) {
	t.Helper()
	if e != api.OK {
		t.Fatalf("error %d", e)
	}
}

func voters(n int) api.Members {
	return api.Members{Voters: []int{1, 2, 3, 4, 5, 6, 7, 8, 9}[:n]}
}

func putPool(name string) api.Command {
	return api.Command{Act: api.PutPool, Expect: -1, Pool: name, Targets: []api.Target{{Addr: name + ":1", Weight: 1}, {Addr: name + ":2", Weight: 3}}}
}

func putRoute(host, prefix, pool string) api.Command {
	return api.Command{Act: api.PutRoute, Expect: -1, Host: host, Prefix: prefix, Pool: pool}
}

func requests() []string {
	return []string{
		"GET / HTTP/1.1\r\nhost: a\r\n\r\n",
		"GET /x/y HTTP/1.1\r\nhost: a\r\n\r\n",
		"GET / HTTP/1.1\r\nhost: b.c\r\n\r\n",
		"",
	}
}

func made(t *testing.T, nodes, room int) *cluster.Cluster {
	t.Helper()
	c, e := cluster.New(nodes, room)
	if c == nil || e != api.OK {
		t.Fatalf("New(%d, %d): error %d", nodes, room, e)
	}
	return c
}

func tick(n int) api.Step { return api.Step{Kind: api.Tick, Node: n} }

func deliver(at int) api.Step { return api.Step{Kind: api.Deliver, At: at} }

func crash(n int, keep ...int) api.Step { return api.Step{Kind: api.Crash, Node: n, Keep: keep} }

func start(n int) api.Step { return api.Step{Kind: api.Start, Node: n} }

func submit(n int, c api.Command) api.Step {
	return api.Step{Kind: api.Submit, Node: n, Command: c}
}

func reform(n int, do api.Do, who int) api.Step {
	return api.Step{Kind: api.Reform, Node: n, Change: api.Change{Do: do, Node: who}}
}

func ask(n, tag int) api.Step { return api.Step{Kind: api.Ask, Node: n, Tag: tag} }

func of(kind api.StepKind, n, to int) api.Step { return api.Step{Kind: kind, Node: n, To: to} }

// messages tells what is under way by what it holds.
func messages(t *testing.T, c *cluster.Cluster) []api.Msg {
	t.Helper()
	var all []api.Msg
	for _, p := range c.Under() {
		m, e := wire.GetMsg(p.Bytes)
		if e != api.OK || m.From != p.From || m.To != p.To {
			t.Errorf("under way is %+v: error %d", p, e)
		}
		all = append(all, m)
	}
	return all
}

// numbers are those of what is under way.
func numbers(c *cluster.Cluster) []int {
	var all []int
	for _, p := range c.Under() {
		all = append(all, p.Id)
	}
	return all
}

// settle delivers until nothing is under way.
func settle(c *cluster.Cluster) {
	for len(c.Under()) > 0 {
		c.Do(deliver(0))
	}
}

// leads has a node's time run out, and all be delivered.
func leads(t *testing.T, c *cluster.Cluster, n int) {
	t.Helper()
	for range 2 * api.Quiet {
		c.Do(tick(n))
		settle(c)
		if c.View(n).Role == api.Leader {
			return
		}
	}
	t.Fatalf("node %d leads not: %+v", n, c.View(n))
}

// whole is all that can be seen of a cluster.
func whole(c *cluster.Cluster) string {
	all := shown(c.Nodes()) + shown(c.Under())
	for n := -1; n <= api.MaxNode+1; n++ {
		all += "\n" + shown(n) + ofNode(c, n)
	}
	return all
}

func ofNode(c *cluster.Cluster, n int) string {
	all := shown(c.Up(n)) + shown(c.View(n)) + shown(c.Config(n)) + shown(c.Applied(n)) + shown(c.Entries(n, math.MinInt, math.MaxInt))
	for i, r := range requests() {
		reply, e := c.Serve(n, []byte(r), float64(i)/4)
		all += shown(reply) + shown(int(e))
	}
	return all
}

// spare is a list with others behind its end, which nobody may look at or write to.
func spare[T any](l []T, behind ...T) []T { return append(slices.Clone(l), behind...)[:len(l)] }

// spoil changes an answer, with the room behind its lists.
func spoil(x api.Told) {
	clear(x.Done[:cap(x.Done)])
	clear(x.Reads[:cap(x.Reads)])
	spoilEntries(x.Log)
}

func spoilEntries(l []api.Entry) {
	for _, x := range l {
		spoilBytes(x.Data)
	}
	clear(l[:cap(l)])
}

func spoilBytes(b []byte) {
	b = b[:cap(b)]
	for i := range b {
		b[i] ^= 0x55
	}
}

// spoilLooks changes all that a cluster's looks answer.
func spoilLooks(c *cluster.Cluster) {
	for n := range c.Nodes() + 2 {
		v := c.View(n)
		clear(v.Members.Voters[:cap(v.Members.Voters)])
		clear(v.Members.Learners[:cap(v.Members.Learners)])
		x := c.Config(n)
		for _, p := range x.Pools {
			clear(p.Targets[:cap(p.Targets)])
		}
		clear(x.Pools[:cap(x.Pools)])
		clear(x.Routes[:cap(x.Routes)])
		spoilEntries(c.Entries(n, 0, math.MaxInt))
	}
	under := c.Under()
	for _, p := range under {
		spoilBytes(p.Bytes)
	}
	clear(under[:cap(under)])
}
