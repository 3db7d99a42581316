package cluster_test

import (
	"math"
	"testing"

	"tollgate/api"
	"tollgate/cluster"
)

// P13.1: numbers of nodes that may not be, whatever the room.
func TestNewRefused(t *testing.T) {
	for _, nodes := range []int{math.MinInt, -1, 0, api.MaxNodes + 1, api.MaxNode, api.MaxNode + 1, math.MaxInt} {
		for _, room := range []int{math.MinInt, 0, roomy, math.MaxInt} {
			if c, e := cluster.New(nodes, room); c != nil || e != api.ErrArg {
				t.Errorf("New(%d, %d): %t, error %d", nodes, room, c != nil, e)
			}
		}
	}
}

// P13.1, P13.3: as many nodes as may be, all up, all of them voters, nothing under way.
func TestNew(t *testing.T) {
	for nodes := 1; nodes <= api.MaxNodes; nodes++ {
		c := made(t, nodes, roomy)
		want(t, "Nodes", c.Nodes(), nodes)
		want(t, "Under", c.Under(), []api.Packet{})
		for n := -1; n <= api.MaxNode+1; n++ {
			there := n >= 1 && n <= nodes
			want(t, "Up", c.Up(n), there)
			view := api.View{}
			if there {
				view.Members = voters(nodes)
			}
			want(t, "View", c.View(n), view)
		}
	}
}

// P13.1: each node's draw is thrice its number: so many ticks later its time runs out.
func TestNewDraws(t *testing.T) {
	for n := 1; n <= api.MaxNodes; n++ {
		c := made(t, api.MaxNodes, roomy)
		ticks := 0
		for len(c.Under()) == 0 && ticks < 99 {
			c.Do(tick(n))
			ticks++
		}
		want(t, "ticks", ticks, api.Quiet+3*n%api.Quiet)
		want(t, "under way", len(c.Under()), api.MaxNodes-1)
	}
}

// P13.1: a room in which no node opens: all are down, and there; each has a disk of its own, so that room for one is room for all.
func TestNewRoom(t *testing.T) {
	for _, room := range []int{math.MinInt, -1, 0, 1, logSize - 1} {
		c := made(t, 3, room)
		want(t, "Nodes", c.Nodes(), 3)
		for n := 1; n <= 3; n++ {
			want(t, "Up", c.Up(n), false)
			want(t, "Tick", c.Do(tick(n)), api.Told{E: api.ErrDown, Node: n})
			want(t, "Start", c.Do(start(n)), api.Told{E: api.ErrFull, Node: n})
			want(t, "Up", c.Up(n), false)
		}
	}
	for _, room := range []int{logSize, math.MaxInt} {
		c := made(t, api.MaxNodes, room)
		for n := 1; n <= api.MaxNodes; n++ {
			want(t, "Up", c.Up(n), true)
		}
	}
}

// P1: of a nil cluster there is nothing; every step is ErrNil, and nothing else is told.
func TestNil(t *testing.T) {
	var c *cluster.Cluster
	for kind := api.NoStep - 1; kind <= api.Ask+1; kind++ {
		want(t, "Do", c.Do(api.Step{Kind: kind, Node: 1, To: 2}), api.Told{E: api.ErrNil})
	}
	want(t, "Nodes", c.Nodes(), 0)
	for n := -1; n < 3; n++ {
		want(t, "Up", c.Up(n), false)
		want(t, "View", c.View(n), api.View{})
		want(t, "Config", c.Config(n), api.Config{})
		want(t, "Applied", c.Applied(n), 0)
		want(t, "Entries", c.Entries(n, 0, 9), []api.Entry{})
		r, e := c.Serve(n, []byte(requests()[0]), 0)
		want(t, "Serve", r, api.Reply{})
		want(t, "Serve", e, api.ErrNil)
	}
	want(t, "Under", c.Under(), []api.Packet{})
}
