package admin_test

import (
	"math"
	"slices"
	"strconv"
	"testing"

	"tollgate/admin"
	"tollgate/api"
	"tollgate/conf"
)

// world is a desk beside its model, whose calls come by chance.
type world struct {
	*pair
	chance
	nodes  int
	failed map[api.Errno]int // of Ask and Try
}

func newWorld(t *testing.T, seed, nodes, room int) *world {
	return &world{newPair(t, nodes, room), chance(seed), nodes, map[api.Errno]int{}}
}

func (w *world) aDraw() int {
	draws := []int{0, -1, math.MaxInt, math.MinInt, w.below(100), w.below(100), w.below(100)}
	return draws[w.below(len(draws))]
}

func (w *world) anOp() api.Op {
	pool, host := []string{"p", "q", "r"}[w.below(3)], []string{"a", "b.c"}[w.below(2)]
	prefix := []string{"/", "/x"}[w.below(2)]
	c := api.Command{Expect: -1}
	switch w.below(12) {
	case 0:
		c.Act, c.Pool = api.DropPool, pool
	case 1:
		c.Act, c.Host, c.Prefix = api.DropRoute, host, prefix
	case 2, 3, 4:
		c.Act, c.Host, c.Prefix, c.Pool = api.PutRoute, host, prefix, pool
	case 5, 6, 7:
		return api.Op{Look: true, Command: c}
	default:
		c.Act, c.Pool = api.PutPool, pool
		for i := range w.below(4) {
			c.Targets = append(c.Targets, api.Target{Addr: pool + ":" + strconv.Itoa(i), Weight: float64(w.below(3))})
		}
	}
	if w.oneOf(6) {
		c.Expect = w.below(30)
	}
	if w.oneOf(30) {
		c.Pool = "-no pool-"
	}
	return api.Op{Command: c}
}

// someone is a node that leads, mostly; it may be one that only thinks so.
func (w *world) someone() int {
	if n := w.Leader(); n > 0 && !w.oneOf(6) {
		return n
	}
	if w.oneOf(10) {
		return w.below(w.nodes+3) - 1
	}
	return 1 + w.below(w.nodes)
}

// aNumber is one of a record that is not answered, mostly.
func (w *world) aNumber() int {
	l := w.model.records
	for range 8 {
		if len(l) > 0 {
			n := len(l) - w.below(min(len(l), api.MaxClient+1))
			if l[n-1].To == 0 {
				return n
			}
		}
	}
	return w.below(len(l)+3) - 1
}

func (w *world) aPlace() int {
	if w.oneOf(3) {
		return w.below(12) - 1
	}
	return 0
}

func (w *world) aStep(changes bool) api.Step {
	s := api.Step{Draw: w.aDraw(), Node: 1 + w.below(w.nodes), To: 1 + w.below(w.nodes)}
	switch k := w.below(300); {
	case k < 80:
		s.Kind = api.Tick
	case k < 260:
		s.Kind, s.At = api.Deliver, w.aPlace()
	case k < 266:
		s.Kind, s.At = api.Lose, w.aPlace()
	case k < 272:
		s.Kind, s.At = api.Double, w.aPlace()
	case k < 274:
		s.Kind = api.Part
	case k < 282:
		s.Kind = api.Heal
	case k < 285:
		s.Kind = api.Crash
		for range w.below(4) {
			s.Keep = append(s.Keep, w.below(60)-3)
		}
	case k < 293:
		s.Kind = api.Start
	case k < 296 && changes:
		s.Kind, s.Node, s.Change = api.Reform, w.someone(), api.Change{Do: api.Do(w.below(6)), Node: w.below(w.nodes + 3)}
	default:
		s.Kind = api.StepKind(w.below(20) - 4)
		if s.Kind == api.Reform {
			s.Kind = api.NoStep
		}
	}
	return s
}

// step is one call, whatever it is.
func (w *world) step(changes bool) {
	w.t.Helper()
	switch k := w.below(100); {
	case k < 8:
		client := 1 + w.below(8)
		if w.oneOf(20) {
			client = w.below(api.MaxClient+4) - 1
		}
		_, e := w.Ask(client, w.anOp())
		w.failed[e]++
	case k < 20:
		_, e := w.Try(w.aNumber(), w.someone())
		w.failed[e]++
	default:
		w.Do(w.aStep(changes))
	}
}

// answered is how many records are.
func (w *world) answered() int {
	n := 0
	for _, r := range w.model.records {
		if r.To > 0 {
			n++
		}
	}
	return n
}

// doneOnce: the log's commands, each done the first time alone, make what the nodes have made of all of them (P14.6).
func (w *world) doneOnce() {
	w.t.Helper()
	type number struct{ client, seq int }
	s, seen, twice := conf.New(), map[number]int{}, 0
	versions := []string{shown(s.Config())}
	for _, x := range w.Log() {
		c, e := conf.GetCommand(x.Data)
		if x.Kind != api.Data || e != api.OK {
			continue
		}
		seen[number{c.Client, c.Seq}]++
		if seen[number{c.Client, c.Seq}] > 1 {
			twice++
			continue
		}
		c.Client, c.Seq = 0, 0
		if s.Do(c).E == api.OK {
			versions = append(versions, shown(s.Config()))
		}
	}
	w.failed[-1] += twice
	for n := 1; n <= w.nodes; n++ {
		if c := w.Config(n); shown(c) != versions[c.Version] {
			w.t.Fatalf("node %d has %+v; commands done once make %s", n, c, versions[c.Version])
		}
	}
}

// P14.1 to P14.6: desks of 1 to 5 nodes under all that may happen, beside the model.
func TestScripts(t *testing.T) {
	answered, failed := 0, map[api.Errno]int{}
	for seed := range 40 {
		w := newWorld(t, seed, 1+seed%5, roomy)
		for i := range 5000 {
			w.step(seed%3 == 0)
			if i%100 == 0 {
				w.same()
			}
		}
		w.same()
		w.doneOnce()
		answered += w.answered()
		for e, n := range w.failed {
			failed[e] += n
		}
	}
	t.Logf("%d records were answered; errors %v", answered, failed)
	if answered < 1500 || failed[api.ErrLeader] < 300 || failed[api.ErrBusy] < 300 || failed[-1] < 100 {
		t.Errorf("the scripts come to nothing: %d records were answered; errors %v", answered, failed)
	}
}

// The same on disks of any room, full ones too.
func TestScriptsOnNarrowDisks(t *testing.T) {
	answered, failed := 0, map[api.Errno]int{}
	for seed := range 40 {
		c := chance(700 + seed)
		room := []int{c.below(60), 60 + c.below(300), 300 + c.below(1500), 1000 + c.below(4000)}[seed%4]
		w := newWorld(t, 100+seed, 1+c.below(5), room)
		for i := range 1000 {
			w.step(seed%3 == 0)
			if i%100 == 0 {
				w.same()
			}
		}
		w.same()
		w.doneOnce()
		answered += w.answered()
		for e, n := range w.failed {
			failed[e] += n
		}
	}
	t.Logf("%d records were answered; errors %v", answered, failed)
	if answered < 200 || failed[api.ErrFull] < 100 || failed[api.ErrDown] < 100 {
		t.Errorf("the scripts come to nothing: %d records were answered; errors %v", answered, failed)
	}
}

// round: each clock ticks once, and all is delivered.
func (w *world) round() {
	for n := 1; n <= w.nodes; n++ {
		w.Do(api.Step{Kind: api.Tick, Node: n, Draw: w.below(1000)})
	}
	for w.Do(api.Step{Kind: api.Deliver, Draw: w.below(1000)}).E != api.ErrGone {
	}
}

// goesOn: all nodes are up, no link is parted, clocks tick alike: what is tried at the leader is answered (P14.7).
func (w *world) goesOn() {
	w.t.Helper()
	for n := 1; n <= w.nodes; n++ {
		w.Do(api.Step{Kind: api.Start, Node: n, Draw: w.aDraw()})
		for to := 1; to <= w.nodes; to++ {
			w.Do(api.Step{Kind: api.Heal, Node: n, To: to})
		}
	}
	rounds := 0
	for w.answered() < len(w.model.records) {
		w.round()
		for i, r := range w.model.records {
			if r.To == 0 && w.Leader() > 0 && w.oneOf(2) {
				w.Try(i+1, w.Leader())
			}
		}
		if rounds++; rounds > 200 {
			w.t.Fatalf("%d rounds, and not all is answered: %+v", rounds, w.model.records)
		}
	}
}

// P14.7: behind any script without changes of members all that was asked is answered.
func TestGoesOn(t *testing.T) {
	for seed := range 21 {
		w := newWorld(t, 300+seed, 1+seed%api.MaxNodes, roomy)
		for range 4 {
			for range 300 {
				w.step(false)
			}
			for client := 1; client <= api.MaxClient; client++ {
				w.Ask(client, w.anOp())
			}
			w.goesOn()
			w.same()
		}
		w.doneOnce()
	}
}

// histories are records and logs of desks that had much happen to them.
func histories(t *testing.T, count int) ([][]api.Record, [][]api.Entry) {
	t.Helper()
	var all [][]api.Record
	var logs [][]api.Entry
	for seed := range count {
		w := newWorld(t, 900+seed, 1+seed%4, roomy)
		for range 250 {
			w.step(false)
		}
		w.goesOn()
		for range 50 {
			w.step(false)
		}
		all, logs = append(all, w.History()), append(logs, w.Log())
	}
	return all, logs
}

func (c *chance) near(n int) int { return n + c.below(5) - 2 }

// spoilt changes one thing of a history.
func (c *chance) spoilt(l []api.Record, log []api.Entry) ([]api.Record, []api.Entry) {
	l, log = slices.Clone(l), slices.Clone(log)
	if len(l) == 0 || len(log) == 0 {
		return l, log
	}
	i, k := c.below(len(l)), c.below(len(l))
	r, other := &l[i], l[k]
	switch c.below(14) {
	case 0:
		r.From = c.near(r.From)
	case 1:
		r.To = c.near(r.To)
	case 2:
		r.From, r.To = other.From, other.To
	case 3:
		r.Index = c.near(r.Index)
	case 4:
		r.Index, r.Config = other.Index, other.Config
	case 5:
		r.Result, r.Config = other.Result, other.Config
	case 6:
		r.Op = other.Op
	case 7:
		l[i], l[k] = l[k], l[i]
	case 8:
		l[i] = l[k]
	case 9:
		l = slices.Delete(l, i, i+1)
	case 10:
		log = log[:c.below(len(log)+1)]
	case 11:
		at := c.below(len(log))
		log[at].Kind = api.EntryKind(c.below(5))
	case 12:
		a, b := c.below(len(log)), c.below(len(log))
		log[a].Data, log[b].Data = log[b].Data, log[a].Data
	case 13:
		if c.oneOf(8) {
			at := c.below(len(log))
			log[at].Index = c.near(log[at].Index)
		}
	}
	return l, log
}

// P14.4: histories of desks, with some things of them changed, beside the chapter's words.
func TestJudgeScripts(t *testing.T) {
	all, logs := histories(t, 12)
	c := chance(5)
	told := map[api.Errno]int{}
	for range 4000 {
		i := c.below(len(all))
		l, log := all[i], logs[i]
		for range 1 + c.below(3) {
			l, log = c.spoilt(l, log)
		}
		place, e := admin.Judge(l, log...)
		at, should := judged(l, log)
		if place != at || e != should {
			t.Fatalf("Judge: %d, error %d; want %d, %d, of\n%+v\nand\n%+v", place, e, at, should, l, log)
		}
		told[e]++
	}
	t.Logf("told: %v", told)
	if told[api.OK] < 100 || told[api.ErrArg] < 100 || told[api.ErrStale] < 100 || told[api.ErrForm] < 10 {
		t.Errorf("the histories come to nothing: %v", told)
	}
}

// resultAt is what the command at an index comes to.
func resultAt(log []api.Entry, index int) api.Result {
	s := conf.New()
	var r api.Result
	for _, x := range log[:index] {
		if c, e := conf.GetCommand(x.Data); x.Kind == api.Data && e == api.OK {
			r = s.Do(c)
		}
	}
	return r
}

// P14.4: short histories of few commands, in which much is alike.
func TestJudgeShort(t *testing.T) {
	c := chance(7)
	told := map[api.Errno]int{}
	for range 30000 {
		var log []api.Entry
		for i := range c.below(5) {
			x := entry(t, i+1, []api.Command{poolOf(1), by(0, 0, putPool("p")), routeOf(2), dropOf(3)}[c.below(4)])
			if c.oneOf(6) {
				x.Kind = api.EntryKind(c.below(4))
			}
			log = append(log, x)
		}
		seen := configs(log)
		var l []api.Record
		for range c.below(5) {
			from := c.below(5)
			index := c.below(len(log) + 1)
			r := saw(from, from+c.below(4), index, seen[index])
			if index > 0 && c.oneOf(2) {
				command, _ := conf.GetCommand(log[index-1].Data)
				r = did(command, r.From, r.To, index, resultAt(log, index))
			}
			l = append(l, r)
		}
		place, e := admin.Judge(l, log...)
		at, should := judged(l, log)
		if place != at || e != should {
			t.Fatalf("Judge: %d, error %d; want %d, %d, of\n%+v\nand\n%+v", place, e, at, should, l, log)
		}
		told[e]++
	}
	if told[api.OK] < 1000 || told[api.ErrArg] < 1000 || told[api.ErrStale] < 1000 {
		t.Errorf("the histories come to nothing: %v", told)
	}
}
