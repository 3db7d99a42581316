package cluster_test

import (
	"math"
	"strconv"
	"testing"

	"tollgate/api"
	"tollgate/plane"
)

// world is a cluster beside its model, and what was ever seen of it.
type world struct {
	*pair
	chance
	terms    map[int]int    // by node
	votes    map[[2]int]int // by node and term
	leaders  map[int]int    // by term
	entries  map[int]string // by index: what was done there
	done     map[int]int    // by index: the term of the node that did it first
	results  map[int]string // by index: what it came to
	configs  map[int]string // by version
	asked    map[int]int    // by a read's tag: up to where all was done anywhere when it was asked
	most     int            // the greatest index that was ever done
	tags     int
	passed   int
	installs int
	applied  map[int]int // by node
	failed   map[api.Errno]int
	seqs     [4]int
}

func newWorld(t *testing.T, seed, nodes, room int) *world {
	return &world{pair: newPair(t, nodes, room), chance: chance(seed), terms: map[int]int{}, votes: map[[2]int]int{}, leaders: map[int]int{}, entries: map[int]string{}, done: map[int]int{}, results: map[int]string{}, configs: map[int]string{}, asked: map[int]int{}, applied: map[int]int{}, failed: map[api.Errno]int{}}
}

func (w *world) aCommand() api.Command {
	pool, host := []string{"p", "q", "r"}[w.below(3)], []string{"a", "b.c"}[w.below(2)]
	prefix := []string{"/", "/x"}[w.below(2)]
	c := api.Command{Expect: -1}
	switch w.below(8) {
	case 0:
		c.Act, c.Pool = api.DropPool, pool
	case 1:
		c.Act, c.Host, c.Prefix = api.DropRoute, host, prefix
	case 2, 3, 4:
		c.Act, c.Host, c.Prefix, c.Pool = api.PutRoute, host, prefix, pool
	default:
		c.Act, c.Pool = api.PutPool, pool
		for i := range w.below(4) {
			c.Targets = append(c.Targets, api.Target{Addr: pool + ":" + strconv.Itoa(i), Weight: float64(w.below(3))})
		}
	}
	if w.oneOf(4) {
		c.Client = 1 + w.below(3)
		w.seqs[c.Client] += w.below(2)
		c.Seq = max(w.seqs[c.Client], 1)
	}
	if w.oneOf(6) {
		c.Expect = len(w.configs)
	}
	if w.oneOf(30) {
		c.Pool = "-no pool-"
	}
	return c
}

// someone is a node that leads, mostly, so that something comes of what is asked of it; one in some times none that there is.
func (w *world) someone() int {
	if w.oneOf(40) {
		return w.below(api.MaxNode+4) - 2
	}
	for n := 1; n <= w.Nodes(); n++ {
		if w.View(n).Role == api.Leader && !w.oneOf(8) {
			return n
		}
	}
	return 1 + w.below(w.Nodes())
}

func (w *world) aPlace() int {
	if w.oneOf(3) {
		return w.below(len(w.Under())+3) - 1
	}
	return 0
}

func (w *world) aStep(changes bool) api.Step {
	s := api.Step{Draw: w.aDraw(), Node: 1 + w.below(w.Nodes()), To: 1 + w.below(w.Nodes()+1)}
	switch k := w.below(400); {
	case k < 80:
		s.Kind = api.Tick
	case k < 270:
		s.Kind, s.At = api.Deliver, w.aPlace()
	case k < 276:
		s.Kind, s.At = api.Lose, w.aPlace()
	case k < 282:
		s.Kind, s.At = api.Double, w.aPlace()
	case k < 284:
		s.Kind = api.Part
	case k < 292:
		s.Kind = api.Heal
	case k < 295:
		s.Kind = api.Crash
		for range w.below(4) {
			s.Keep = append(s.Keep, w.below(60)-3)
		}
	case k < 304:
		s.Kind = api.Start
	case k < 366:
		s.Kind, s.Node, s.Command = api.Submit, w.someone(), w.aCommand()
	case k < 370 && changes:
		s.Kind, s.Node, s.Change = api.Reform, w.someone(), api.Change{Do: api.Do(w.below(6)), Node: w.below(w.Nodes() + 3)}
	case k < 398:
		w.tags++
		w.asked[w.tags] = w.most
		s.Kind, s.Node, s.Tag = api.Ask, w.someone(), w.tags
	default:
		s.Kind = api.StepKind(w.below(20) - 4)
		s.Node, s.Command = w.someone(), w.aCommand()
		if s.Kind == api.Reform || s.Kind == api.Ask {
			s.Kind = api.NoStep
		}
	}
	return s
}

// step does one, and holds what it came to against all that was ever seen.
func (w *world) step(s api.Step) api.Told {
	w.t.Helper()
	told := w.Do(s)
	w.failed[told.E]++
	w.lookAtHard(told.Node)
	w.lookAtLog(told)
	w.lookAtConfig(told.Node)
	w.lookAtReads(told)
	return told
}

// lookAtHard: of one term there is at most one leader; a node's term never falls, and it votes once in a term (P13.4, P13.5).
func (w *world) lookAtHard(n int) {
	w.t.Helper()
	if !w.Up(n) {
		return
	}
	v := w.View(n)
	term := v.Hard.Term
	if term < w.terms[n] {
		w.t.Fatalf("node %d: its term falls from %d to %d", n, w.terms[n], term)
	}
	w.terms[n] = term
	at := [2]int{n, term}
	if vote := w.votes[at]; vote != 0 && v.Hard.Vote != vote {
		w.t.Fatalf("node %d votes in term %d for %d and for %d", n, term, vote, v.Hard.Vote)
	}
	w.votes[at] = v.Hard.Vote
	if v.Role != api.Leader {
		return
	}
	if other := w.leaders[term]; other != 0 && other != n {
		w.t.Fatalf("%d and %d lead in term %d", other, n, term)
	}
	if w.leaders[term] == 0 {
		w.lookAtLeader(n)
	}
	w.leaders[term] = n
}

// lookAtLeader: what was done anywhere is in its log (P13.5).
func (w *world) lookAtLeader(n int) {
	w.t.Helper()
	v := w.View(n)
	log := map[int]string{}
	for _, x := range w.Entries(n, 0, math.MaxInt) {
		log[x.Index] = shown(x)
	}
	for index := v.Base.Index + 1; index <= w.most; index++ {
		if w.done[index] < v.Hard.Term && log[index] != w.entries[index] {
			w.t.Fatalf("node %d leads in term %d with %s at %d; done was %s", n, v.Hard.Term, log[index], index, w.entries[index])
		}
	}
}

func same(t *testing.T, what string, known map[int]string, at int, is string) {
	t.Helper()
	if was, there := known[at]; there && was != is {
		t.Fatalf("%s %d: %s\nelsewhere\n%s", what, at, is, was)
	}
	known[at] = is
}

// lookAtLog: what two nodes have done at one index is the same, and so is what it came to (P13.4).
func (w *world) lookAtLog(told api.Told) {
	w.t.Helper()
	for _, x := range told.Log {
		same(w.t, "done at", w.entries, x.Index, shown(x))
		if x.Index > w.most+1 {
			w.t.Fatalf("node %d does %d, and %d was the last one", told.Node, x.Index, w.most)
		}
		if x.Index == w.most+1 {
			w.most = x.Index
			w.done[x.Index] = w.View(told.Node).Hard.Term
		}
	}
	for _, d := range told.Done {
		same(w.t, "the result at", w.results, d.Index, shown(d))
	}
	if len(told.Log) > 0 {
		for n := 1; n <= w.Nodes(); n++ {
			if w.View(n).Role == api.Leader {
				w.lookAtLeader(n)
			}
		}
	}
	applied := w.Applied(told.Node)
	if len(told.Log) == 0 && w.applied[told.Node] > 0 && applied > w.applied[told.Node] {
		w.installs++
	}
	w.applied[told.Node] = applied
}

// lookAtConfig: one version is one configuration, and a node answers by its own (P13.4, P13.7).
func (w *world) lookAtConfig(n int) {
	w.t.Helper()
	if !w.Up(n) {
		return
	}
	c := w.Config(n)
	same(w.t, "version", w.configs, c.Version, shown(c))
	gate := plane.New()
	gate.Apply(c)
	for i, r := range requests() {
		got, e := w.Serve(n, []byte(r), float64(i)/4)
		if want := gate.Serve([]byte(r), float64(i)/4); e != api.OK || got != want {
			w.t.Fatalf("node %d serves %+v (error %d), and by its configuration %+v", n, got, e, want)
		}
	}
}

// lookAtReads: a read that passes has an index up to which all was done anywhere when it was asked (E4).
func (w *world) lookAtReads(told api.Told) {
	w.t.Helper()
	for _, r := range told.Reads {
		w.passed++
		if r.Index < w.asked[r.Tag] || w.Applied(told.Node) < r.Index {
			w.t.Fatalf("node %d: read %d passes with %d; %d was done when it was asked, and %d here", told.Node, r.Tag, r.Index, w.asked[r.Tag], w.Applied(told.Node))
		}
	}
}

// P13.2 to P13.5, P13.7: clusters of 1 to 5 nodes, with messages lost, doubled and out of turn, links parted and healed, crashes that keep any number of units, and changes of members, beside the model.
func TestScripts(t *testing.T) {
	passed, most, installs, leaders := 0, 0, 0, 0
	for seed := range 30 {
		w := newWorld(t, seed, 1+seed%5, roomy)
		for i := range 3000 {
			w.step(w.aStep(seed%3 == 0))
			if i%25 == 0 {
				w.same()
			}
		}
		w.same()
		passed, most, installs, leaders = passed+w.passed, most+w.most, installs+w.installs, leaders+len(w.leaders)
	}
	t.Logf("%d reads passed, %d entries done, %d snapshots installed, %d leaders", passed, most, installs, leaders)
	if passed < 300 || most < 1500 || installs < 3 || leaders < 100 {
		t.Errorf("the scripts come to nothing: %d reads passed, %d entries done, %d snapshots installed, %d leaders", passed, most, installs, leaders)
	}
}

// P13.4, P13.5: the same on disks of any room, full ones too.
func TestScriptsOnNarrowDisks(t *testing.T) {
	failed, most := map[api.Errno]int{}, 0
	for seed := range 40 {
		c := chance(700 + seed)
		room := []int{c.below(60), 60 + c.below(300), 300 + c.below(1500), 1000 + c.below(4000)}[seed%4]
		w := newWorld(t, 100+seed, 1+c.below(5), room)
		for i := range 800 {
			w.step(w.aStep(seed%3 == 0))
			if i%25 == 0 {
				w.same()
			}
		}
		for e, n := range w.failed {
			failed[e] += n
		}
		most += w.most
	}
	t.Logf("%d steps were not kept, %d nodes were down, %d entries done", failed[api.ErrFull], failed[api.ErrDown], most)
	if failed[api.ErrFull] < 500 || failed[api.ErrDown] < 500 || most < 400 {
		t.Errorf("the scripts come to nothing: %v, %d entries done", failed, most)
	}
}

// mend: all nodes are up, no link is parted.
func (w *world) mend() {
	for n := 1; n <= w.Nodes(); n++ {
		if !w.Up(n) {
			if e := w.step(api.Step{Kind: api.Start, Node: n, Draw: w.aDraw()}).E; e != api.OK {
				w.t.Fatalf("Start(%d): error %d", n, e)
			}
		}
		for to := 1; to <= w.Nodes(); to++ {
			w.step(of(api.Heal, n, to))
		}
	}
}

// round: each clock ticks once, and all is delivered.
func (w *world) round() {
	for n := 1; n <= w.Nodes(); n++ {
		w.step(api.Step{Kind: api.Tick, Node: n, Draw: w.below(1000)})
	}
	for len(w.Under()) > 0 {
		w.step(api.Step{Kind: api.Deliver, Draw: w.below(1000)})
	}
}

// until has rounds go by until something is so.
func (w *world) until(what string, is func() bool) {
	w.t.Helper()
	for range 200 {
		if is() {
			return
		}
		w.round()
	}
	w.t.Fatalf("200 rounds, and still not: %s\n%s", what, whole(w.Cluster))
}

func (w *world) leader() int {
	for n := 1; n <= w.Nodes(); n++ {
		if w.View(n).Role == api.Leader && w.View(n).Hard.Term == w.terms[n] {
			return n
		}
	}
	return 0
}

// goesOn: a leader is found, and what is submitted to it is done at all nodes (P13.6).
func (w *world) goesOn() {
	w.t.Helper()
	w.mend()
	index := 0
	w.until("a leader takes a command", func() bool {
		told := w.step(submit(max(w.leader(), 1), w.aGoodCommand()))
		index = told.Index
		return told.E == api.OK
	})
	w.until("it is done everywhere", func() bool {
		for n := 1; n <= w.Nodes(); n++ {
			if w.Applied(n) < index {
				return false
			}
		}
		return true
	})
	for n := 2; n <= w.Nodes(); n++ {
		want(w.t, "the configuration", w.Config(n), w.Config(1))
	}
}

func (w *world) aGoodCommand() api.Command { return putPool("p" + strconv.Itoa(w.below(5))) }

// P13.6: behind any script without changes of members the cluster goes on, time and again.
func TestGoesOn(t *testing.T) {
	for seed := range 30 {
		w := newWorld(t, 300+seed, 1+seed%api.MaxNodes, roomy)
		w.goesOn()
		for range 4 {
			for range 250 {
				w.step(w.aStep(false))
			}
			w.goesOn()
		}
		w.same()
	}
}

// P13.6: all nodes fall at once, and go on with what was done.
func TestAllFall(t *testing.T) {
	for _, nodes := range []int{1, 2, 3, 5, 7} {
		w := newWorld(t, nodes, nodes, roomy)
		for range 5 {
			w.goesOn()
			version := w.Config(1).Version
			for n := 1; n <= nodes; n++ {
				wantOK(t, w.step(crash(n, w.below(50))).E)
			}
			want(t, "nobody", w.leader(), 0)
			w.goesOn()
			if got := w.Config(1).Version; got <= version {
				t.Errorf("version %d behind %d", got, version)
			}
		}
	}
}

// P13.4, P13.6: who is cut off with a minority does nothing; the others go on, and it takes what they did.
func TestCutOff(t *testing.T) {
	w := newWorld(t, 1, 5, roomy)
	w.goesOn()
	old := w.leader()
	for n := 1; n <= 5; n++ {
		if n != old {
			w.step(of(api.Part, old, n))
			w.step(of(api.Part, n, old))
		}
	}
	told := w.step(submit(old, putPool("lost")))
	wantOK(t, told.E)
	next := 0
	w.until("another one leads", func() bool {
		for n := 1; n <= 5; n++ {
			if n != old && w.View(n).Role == api.Leader {
				next = n
			}
		}
		return next != 0
	})
	wantOK(t, w.step(submit(next, putPool("kept"))).E)
	w.round()
	want(t, "the old one leads still", w.View(old).Role, api.Leader)
	if w.Applied(old) >= told.Index || w.Applied(next) <= told.Index {
		t.Errorf("done: %d there, %d here", w.Applied(old), w.Applied(next))
	}
	w.goesOn()
	for _, p := range w.Config(old).Pools {
		if p.Name == "lost" {
			t.Error("it was not done, and is there")
		}
	}
	want(t, "it follows", w.View(old).Role, api.Follower)
}
