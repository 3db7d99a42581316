package node_test

import (
	"math"
	"slices"
	"strconv"
	"testing"

	"tollgate/api"
	"tollgate/conf"
	"tollgate/disk"
	"tollgate/node"
	"tollgate/plane"
	"tollgate/snap"
	"tollgate/wire"
)

// seen is what a node has shown since it is up.
type seen struct {
	version, applied, commit int
}

// world is nodes beside their models, and the messages between them.
type world struct {
	t *testing.T
	chance
	pairs    []*pair // that of node 1 first
	since    []seen
	terms    []int
	under    []api.Packet
	votes    map[[2]int]int // by node and term
	leaders  map[int]int    // by term
	entries  map[int]string // by index: what was applied there
	results  map[int]string // by index: what it came to
	configs  map[int]string // by version
	asked    map[int]int    // by a read's tag: what was committed anywhere when it was asked
	tags     int
	most     int // the greatest index that was ever applied
	seqs     [4]int
	narrow   bool // disks have little room
	away     int  // the node that no message reaches; 0: none
	passed   int
	installs int
	failed   map[api.Errno]int
	lost     int // nodes that can't be opened any more
}

// newWorld has a node for each disk's room.
func newWorld(t *testing.T, seed int, m api.Members, rooms ...int) *world {
	w := &world{t: t, chance: chance(seed), votes: map[[2]int]int{}, leaders: map[int]int{}, entries: map[int]string{}, results: map[int]string{}, configs: map[int]string{}, asked: map[int]int{}, failed: map[api.Errno]int{}}
	for i, room := range rooms {
		w.pairs = append(w.pairs, newPair(t, disk.New(room), i+1, m))
		w.narrow = w.narrow || room < roomy
	}
	w.since = make([]seen, len(rooms))
	w.terms = make([]int, len(rooms))
	for i := range w.pairs {
		w.open(i)
	}
	return w
}

// open: with an error the node is down for ever.
func (w *world) open(i int) {
	w.t.Helper()
	p := w.pairs[i]
	if e := p.open(w.aDraw()); e != api.OK {
		if !w.narrow || e != api.ErrFull && e != api.ErrForm {
			w.t.Fatalf("node %d: Open: error %d", i+1, e)
		}
		w.lost++
		return
	}
	w.since[i] = seen{commit: p.node.View().Base.Index}
	w.look(i, api.Out{})
}

func (w *world) aCommand() api.Command {
	pool, host := []string{"p", "q", "r"}[w.below(3)], []string{"a", "b.c"}[w.below(2)]
	prefix := []string{"/", "/x"}[w.below(2)]
	c := api.Command{Expect: -1}
	switch w.below(8) {
	case 0:
		c.Act, c.Pool = api.DropPool, pool
	case 1:
		c.Act, c.Host, c.Prefix = api.DropRoute, host, prefix
	case 2, 3, 4:
		c.Act, c.Host, c.Prefix, c.Pool = api.PutRoute, host, prefix, pool
	default:
		c.Act, c.Pool = api.PutPool, pool
		for i := range w.below(4) {
			c.Targets = append(c.Targets, api.Target{Addr: pool + ":" + strconv.Itoa(i), Weight: float64(w.below(3))})
		}
	}
	if w.oneOf(4) {
		c.Client = 1 + w.below(3)
		if w.oneOf(2) {
			w.seqs[c.Client]++
		}
		c.Seq = max(w.seqs[c.Client], 1)
	}
	if w.oneOf(6) {
		c.Expect = len(w.configs)
	}
	return c
}

// told: what a step of a node told; its messages are under way.
func (w *world) told(i int, o api.Out) {
	w.t.Helper()
	w.failed[o.E]++
	for _, x := range o.Msgs {
		if len(w.under) < 60 {
			w.under = append(w.under, x)
		}
	}
	w.look(i, o)
}

func (w *world) look(i int, o api.Out) {
	w.t.Helper()
	n := w.pairs[i].node
	v := n.View()
	if v.Hard.Term < w.terms[i] {
		w.t.Fatalf("node %d: its term falls from %d to %d", i+1, w.terms[i], v.Hard.Term)
	}
	w.terms[i] = v.Hard.Term
	at := [2]int{i, v.Hard.Term}
	if vote := w.votes[at]; vote != 0 && v.Hard.Vote != vote {
		w.t.Fatalf("node %d votes in term %d for %d and for %d", i+1, v.Hard.Term, vote, v.Hard.Vote)
	}
	w.votes[at] = v.Hard.Vote
	if v.Role == api.Leader {
		if other, there := w.leaders[v.Hard.Term]; there && other != i {
			w.t.Fatalf("%d and %d lead in term %d", other+1, i+1, v.Hard.Term)
		}
		w.leaders[v.Hard.Term] = i
	}
	w.lookAtLog(i, o)
	w.lookAtConfig(i)
	for _, r := range o.Reads {
		w.passed++
		if r.Index < w.asked[r.Tag] {
			w.t.Fatalf("node %d: read %d passes with %d; %d was committed when it was asked", i+1, r.Tag, r.Index, w.asked[r.Tag])
		}
		if n.Applied() < r.Index {
			w.t.Fatalf("node %d: read %d passes with %d, and %d is applied", i+1, r.Tag, r.Index, n.Applied())
		}
	}
}

func same(t *testing.T, what string, known map[int]string, at int, is string) {
	t.Helper()
	if was, there := known[at]; there && was != is {
		t.Fatalf("%s %d: %s\nelsewhere\n%s", what, at, is, was)
	}
	known[at] = is
}

// lookAtLog: no two nodes apply different entries at one index, or come to different results (E2).
func (w *world) lookAtLog(i int, o api.Out) {
	w.t.Helper()
	n := w.pairs[i].node
	before := &w.since[i]
	at := n.Applied() - len(o.Log)
	done := o.Done
	for _, x := range o.Log {
		at++
		if x.Index != at {
			w.t.Fatalf("node %d: it applied up to %d, and tells %s", i+1, n.Applied(), shown(o.Log))
		}
		same(w.t, "applied at", w.entries, x.Index, shown(x))
		if x.Kind == api.Data {
			if len(done) == 0 || done[0].Index != x.Index || done[0].Term != x.Term {
				w.t.Fatalf("node %d: Done is %s, and Log %s", i+1, shown(o.Done), shown(o.Log))
			}
			same(w.t, "the result at", w.results, x.Index, shown(done[0].Result))
			done = done[1:]
		}
		w.most = max(w.most, x.Index)
	}
	v := n.View()
	if len(done) > 0 || n.Applied() != v.Commit || n.Applied() < before.applied || v.Commit < before.commit {
		w.t.Fatalf("node %d: %s applied up to %d, with Done %s; it was %+v", i+1, shown(v), n.Applied(), shown(o.Done), *before)
	}
	if len(o.Log) == 0 && before.applied > 0 && n.Applied() > before.applied {
		w.installs++
	}
	before.applied, before.commit = n.Applied(), v.Commit
}

// lookAtConfig: one version is one configuration everywhere, a node's never falls, and its gate answers by it (P12.5, P12.6).
func (w *world) lookAtConfig(i int) {
	w.t.Helper()
	n := w.pairs[i].node
	c := n.Config()
	if c.Version < w.since[i].version {
		w.t.Fatalf("node %d: its version falls from %d to %d", i+1, w.since[i].version, c.Version)
	}
	w.since[i].version = c.Version
	same(w.t, "version", w.configs, c.Version, shown(c))
	gate := plane.New()
	gate.Apply(c)
	if got, want := served(n.Serve), served(gate.Serve); got != want {
		w.t.Fatalf("node %d serves\n%s\nand by its configuration\n%s", i+1, got, want)
	}
}

// afterCrash: on disks of much room a node that is opened anew has its Hard and its log, whatever the crash keeps, and a configuration from its snapshot's on (P12.4).
func (w *world) afterCrash(i int) {
	w.t.Helper()
	p := w.pairs[i]
	d := p.disk.Fork()
	keep := []int{w.below(40), w.below(40), w.below(40), w.below(40)}
	if w.oneOf(3) {
		keep = []int{math.MaxInt, -1, math.MaxInt, math.MinInt}
	}
	d.Crash(keep)
	n, e := node.Open(d, i+1, p.first, 0)
	if e != api.OK {
		w.t.Fatalf("node %d: behind a crash: error %d", i+1, e)
	}
	was, is := p.node.View(), n.View()
	if is.Hard != was.Hard || is.Base != was.Base || shown(is.Members) != shown(was.Members) {
		w.t.Fatalf("node %d: behind a crash %s\nahead of it %s", i+1, shown(is), shown(was))
	}
	if got, want := shown(n.Entries(0, math.MaxInt)), shown(p.node.Entries(0, math.MaxInt)); got != want {
		w.t.Fatalf("node %d: behind a crash %s\nahead of it %s", i+1, got, want)
	}
	least := 0
	if s, e := snap.Load(d); e == api.OK {
		store, _ := conf.Load(s.Data)
		least = store.Config().Version
	}
	if c := n.Config(); c.Version < least || c.Version > p.node.Config().Version || shown(c) != w.configs[c.Version] {
		w.t.Fatalf("node %d: behind a crash %s", i+1, shown(c))
	}
}

func (w *world) deliver() {
	if len(w.under) == 0 {
		return
	}
	at := 0
	if w.oneOf(3) {
		at = w.below(len(w.under))
	}
	x := w.under[at]
	if !w.oneOf(20) {
		w.under = slices.Delete(w.under, at, at+1)
	}
	if x.To <= len(w.pairs) && x.To != w.away && x.From != w.away && w.pairs[x.To-1].node != nil && !w.oneOf(20) {
		w.told(x.To-1, w.pairs[x.To-1].take(x.Bytes, w.aDraw()))
	}
}

func (w *world) crash(i int) {
	p := w.pairs[i]
	var keep []int
	for range w.below(4) {
		keep = append(keep, w.below(60)-3)
	}
	if p.node != nil {
		p.crash(keep...)
		w.open(i)
	}
}

// garbage is bytes that are no message, or one that is turned.
func (w *world) garbage() []byte {
	var b []byte
	if len(w.under) > 0 && w.oneOf(2) {
		b = slices.Clone(w.under[w.below(len(w.under))].Bytes)
	}
	if len(b) == 0 || w.oneOf(3) {
		for range w.below(30) {
			b = append(b, byte(w.below(12)))
		}
	}
	if len(b) > 0 && w.oneOf(3) {
		return b[:w.below(len(b))]
	}
	return append(b, byte(w.below(256)))
}

// leader is one that leads, mostly, so that something comes of what is asked of it.
func (w *world) leader() int {
	for i, p := range w.pairs {
		if p.node.View().Role == api.Leader && !w.oneOf(8) {
			return i
		}
	}
	return w.below(len(w.pairs))
}

func (w *world) step(changes bool) {
	i := w.below(len(w.pairs))
	k := w.below(100)
	if k >= 70 && k < 93 {
		i = w.leader()
	}
	if w.oneOf(150) {
		w.away = w.below(len(w.pairs)+1) * w.below(2)
	}
	p := w.pairs[i]
	if p.node == nil {
		w.deliver()
		return
	}
	switch {
	case k < 20:
		w.told(i, p.tick(w.aDraw()))
	case k < 70:
		w.deliver()
	case k < 86:
		w.told(i, p.submit(w.aCommand()))
	case k < 89 && changes:
		w.told(i, p.change(api.Change{Do: api.Do(w.below(6)), Node: w.below(len(w.pairs) + 3)}))
	case k < 93:
		w.tags++
		w.asked[w.tags] = w.most
		w.told(i, p.read(w.tags))
	case k < 95:
		if b := w.garbage(); !isMessage(b) {
			w.told(i, p.take(b, w.aDraw()))
		}
	case k < 97:
		if !w.narrow {
			w.afterCrash(i)
		}
	case k < 98:
		w.crash(i)
	case k < 99:
		w.under = nil
	}
}

func isMessage(b []byte) bool {
	_, e := wire.GetMsg(b)
	return e == api.OK
}

// P12.1 to P12.6, E2 to E5, P3: nodes with messages lost, doubled and out of turn, wrong bytes, commands, changes of members, reads, and crashes, each beside its model.
func TestScripts(t *testing.T) {
	passed, most, installs := 0, 0, 0
	for seed := range 24 {
		nodes := 1 + seed%5
		m := voters(1, 2, 3, 4, 5)
		m.Voters = m.Voters[:max(nodes-seed%2, 1)]
		if len(m.Voters) < nodes {
			m.Learners = []int{nodes}
		}
		w := newWorld(t, seed, m, slices.Repeat([]int{roomy}, nodes)...)
		for range 1500 {
			w.step(seed%3 == 0)
		}
		passed += w.passed
		most += w.most
		installs += w.installs
	}
	t.Logf("%d reads passed, %d entries applied, %d snapshots installed", passed, most, installs)
	if passed < 100 || most < 1000 || installs < 10 {
		t.Errorf("the scripts come to nothing: %d reads passed, %d entries applied, %d snapshots installed", passed, most, installs)
	}
}

// P12.7, E2, E3: the same on disks of any room, full ones too.
func TestScriptsOnNarrowDisks(t *testing.T) {
	full, most, lost := 0, 0, 0
	for seed := range 40 {
		nodes := 1 + seed%4
		m := voters(1, 2, 3, 4)
		m.Voters = m.Voters[:nodes]
		c := chance(500 + seed)
		rooms := make([]int, nodes)
		for i := range rooms {
			rooms[i] = []int{c.below(100), 200 + c.below(600), 500 + c.below(2000), roomy}[c.below(4)]
		}
		w := newWorld(t, 100+seed, m, rooms...)
		for range 800 {
			w.step(seed%3 == 0)
		}
		full += w.failed[api.ErrFull]
		most += w.most
		lost += w.lost
	}
	t.Logf("%d steps were not kept, %d entries applied, %d nodes lost", full, most, lost)
	if full < 500 || most < 500 {
		t.Errorf("the scripts come to nothing: %d steps were not kept, %d entries applied", full, most)
	}
}
