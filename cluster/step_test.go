package cluster_test

import (
	"math"
	"slices"
	"testing"

	"tollgate/api"
	"tollgate/cluster"
	"tollgate/conf"
	"tollgate/member"
)

func commandEntry(t *testing.T, term, index int, c api.Command) api.Entry {
	t.Helper()
	b, e := conf.PutCommand(c)
	wantOK(t, e)
	return api.Entry{Kind: api.Data, Term: term, Index: index, Data: b}
}

func turnEntry(t *testing.T, term, index int, do api.Do, who int) api.Entry {
	t.Helper()
	b, e := member.PutChange(api.Change{Do: do, Node: who})
	wantOK(t, e)
	return api.Entry{Kind: api.Turn, Term: term, Index: index, Data: b}
}

func noop(term, index int) api.Entry { return api.Entry{Kind: api.Noop, Term: term, Index: index} }

// P13.2: kinds that are none change nothing, whatever else the step says; the step's node is told, if there is one such or not.
func TestKinds(t *testing.T) {
	c := made(t, 3, roomy)
	for range 13 {
		c.Do(tick(1))
	}
	before := whole(c)
	for _, kind := range []api.StepKind{math.MinInt, -1, api.NoStep, api.Ask + 1, api.Ask + 2, math.MaxInt} {
		for _, n := range []int{math.MinInt, -1, 0, 1, 2, 3, 4, api.MaxNode + 1, math.MaxInt} {
			s := api.Step{Kind: kind, Node: n, To: 1, Draw: 3, Tag: 4, Keep: []int{1}, Command: putPool("p"), Change: api.Change{Do: api.Add, Node: 4}}
			want(t, shown(s), c.Do(s), api.Told{E: api.ErrArg, Node: n})
		}
	}
	want(t, "behind them", whole(c), before)
}

// P13.2: kinds that are none, of a node that is down: the kind's error is named first.
func TestKindsDown(t *testing.T) {
	for nodes := 1; nodes <= api.MaxNodes; nodes++ {
		c := made(t, nodes, 0)
		for _, kind := range []api.StepKind{-1, api.NoStep, api.Ask + 1} {
			for n := range nodes + 2 {
				want(t, "Do", c.Do(api.Step{Kind: kind, Node: n}), api.Told{E: api.ErrArg, Node: n})
			}
		}
	}
}

// P13.2: nodes that there are not, and nodes that are down, for every step of a node; the node is told.
func TestNoNode(t *testing.T) {
	c := made(t, 3, roomy)
	leads(t, c, 1)
	wantOK(t, c.Do(submit(1, putPool("p"))).E)
	wantOK(t, c.Do(crash(2)).E)
	before := whole(c)
	steps := func(n int) []api.Step {
		return []api.Step{tick(n), crash(n, 9), submit(n, putPool("q")), submit(n, api.Command{}), reform(n, api.Add, 9), reform(n, api.NoDo, 0), ask(n, 1)}
	}
	for _, n := range []int{math.MinInt, -1, 0, 4, api.MaxNodes, api.MaxNode, api.MaxNode + 1, math.MaxInt} {
		for _, s := range append(steps(n), start(n)) {
			want(t, shown(s), c.Do(s), api.Told{E: api.ErrArg, Node: n})
		}
	}
	for _, s := range steps(2) {
		want(t, shown(s), c.Do(s), api.Told{E: api.ErrDown, Node: 2})
	}
	want(t, "behind them", whole(c), before)
}

// P13.3: looks at nodes that there are not, and at nodes that are down, tell nothing; Serve has errors.
func TestLooks(t *testing.T) {
	c := made(t, 3, roomy)
	leads(t, c, 1)
	c.Do(submit(1, putPool("p")))
	c.Do(submit(1, putRoute("a", "/", "p")))
	settle(c)
	for range api.Beat {
		c.Do(tick(1))
	}
	settle(c)
	b := []byte(requests()[0])
	for n := 1; n <= 3; n++ {
		want(t, "Applied", c.Applied(n), 3)
		want(t, "Config", c.Config(n), api.Config{Version: 2, Routes: []api.Route{{Host: "a", Prefix: "/", Pool: "p"}}, Pools: []api.Pool{{Name: "p", Targets: putPool("p").Targets}}})
		want(t, "Entries", c.Entries(n, 2, 2), []api.Entry{commandEntry(t, 1, 2, putPool("p"))})
		want(t, "Entries", c.Entries(n, 3, 2), []api.Entry{})
		v := c.View(n)
		want(t, "View", []int{v.Leader, v.Hard.Term, v.Hard.Vote, v.Last, v.Commit}, []int{1, 1, 1, 3, 3})
		r, e := c.Serve(n, b, 0.2)
		want(t, "Serve", r, api.Reply{Status: 200, Version: 2, Pool: "p", Addr: "p:1"})
		wantOK(t, e)
		r, _ = c.Serve(n, b, 0.3)
		want(t, "Serve", r.Addr, "p:2")
	}
	wantOK(t, c.Do(crash(3)).E)
	for n, e := range map[int]api.Errno{3: api.ErrDown, 0: api.ErrArg, -1: api.ErrArg, 4: api.ErrArg, math.MinInt: api.ErrArg, math.MaxInt: api.ErrArg} {
		want(t, "Up", c.Up(n), false)
		want(t, "View", c.View(n), api.View{})
		want(t, "Config", c.Config(n), api.Config{})
		want(t, "Applied", c.Applied(n), 0)
		want(t, "Entries", c.Entries(n, math.MinInt, math.MaxInt), []api.Entry{})
		r, got := c.Serve(n, b, 0.2)
		want(t, "Serve", r, api.Reply{})
		want(t, "Serve", got, e)
	}
}

// P13.2: a first leader's life, step by step: what is told, by whom, and what is under way.
func TestTickAndDeliver(t *testing.T) {
	c := made(t, 3, roomy)
	for range 12 {
		want(t, "Tick", c.Do(tick(1)), api.Told{Node: 1})
	}
	want(t, "Under", c.Under(), []api.Packet{})
	want(t, "Tick", c.Do(tick(1)), api.Told{Node: 1})
	want(t, "under way", messages(t, c), []api.Msg{{Kind: api.AskPre, From: 1, To: 2, Term: 1}, {Kind: api.AskPre, From: 1, To: 3, Term: 1}})
	want(t, "its second one first", c.Do(deliver(1)), api.Told{Node: 3})
	want(t, "numbers", numbers(c), []int{1, 3})
	want(t, "it stands", c.Do(deliver(1)), api.Told{Node: 1})
	want(t, "numbers", numbers(c), []int{1, 4, 5})
	want(t, "it is voted for", c.Do(deliver(1)), api.Told{Node: 2})
	want(t, "it leads", c.Do(deliver(2)), api.Told{Node: 1})
	want(t, "Role", c.View(1).Role, api.Leader)
	want(t, "the last two", messages(t, c)[2:], []api.Msg{{Kind: api.Append, From: 1, To: 2, Term: 1, Entries: []api.Entry{noop(1, 1)}}, {Kind: api.Append, From: 1, To: 3, Term: 1, Entries: []api.Entry{noop(1, 1)}}})
	want(t, "it is taken", c.Do(deliver(3)), api.Told{Node: 3})
	want(t, "it is committed", c.Do(deliver(3)), api.Told{Node: 1, Log: []api.Entry{noop(1, 1)}})
	want(t, "Applied", c.Applied(1), 1)
	want(t, "what is left", numbers(c), []int{1, 5, 7})
}

// P13.2: the draws of Tick, of Deliver and of Start say how long a node waits then.
func TestDraws(t *testing.T) {
	waits := func(c *cluster.Cluster, n int) int {
		ticks := 0
		for len(c.Under()) == 0 && ticks < 99 {
			c.Do(tick(n))
			ticks++
		}
		return ticks
	}
	for draw, ticks := range map[int]int{0: 10, 4: 14, 19: 19, -1: 15, math.MinInt: 18} {
		c := made(t, 2, roomy)
		for range 13 {
			c.Do(api.Step{Kind: api.Tick, Node: 1, Draw: draw})
		}
		c.Do(of(api.Part, 1, 2))
		c.Do(of(api.Heal, 1, 2))
		want(t, "Tick", waits(c, 1), ticks)

		c = made(t, 2, roomy)
		for range 13 {
			c.Do(tick(1))
		}
		for range 3 {
			c.Do(api.Step{Kind: api.Deliver, Draw: draw})
		}
		want(t, "it voted", c.View(2).Hard, api.Hard{Term: 1, Vote: 1})
		c.Do(of(api.Part, 2, 1))
		c.Do(of(api.Heal, 2, 1))
		want(t, "Deliver", waits(c, 2), ticks)

		c = made(t, 2, roomy)
		c.Do(crash(2))
		want(t, "Start", c.Do(api.Step{Kind: api.Start, Node: 2, Draw: draw}), api.Told{Node: 2})
		want(t, "Start", waits(c, 2), ticks)
	}
}

// P13.2: Submit, Reform and Ask tell what the node's step tells: Index and Term, Done, Log, Reads, or its error.
func TestNodeSteps(t *testing.T) {
	c := made(t, 1, roomy)
	for _, s := range []api.Step{submit(1, putPool("p")), reform(1, api.Add, 2), ask(1, 3)} {
		want(t, "who leads not", c.Do(s), api.Told{E: api.ErrLeader, Node: 1})
	}
	want(t, "no command", c.Do(submit(1, api.Command{})), api.Told{E: api.ErrArg, Node: 1})
	for range 12 {
		c.Do(tick(1))
	}
	want(t, "it leads", c.Do(tick(1)), api.Told{Node: 1, Log: []api.Entry{noop(1, 1)}})
	want(t, "Submit", c.Do(submit(1, putPool("p"))), api.Told{Node: 1, Index: 2, Term: 1, Done: []api.Done{{Index: 2, Term: 1, Result: api.Result{Version: 1}}}, Log: []api.Entry{commandEntry(t, 1, 2, putPool("p"))}})
	drop := api.Command{Act: api.DropPool, Expect: -1, Pool: "none"}
	want(t, "Submit", c.Do(submit(1, drop)), api.Told{Node: 1, Index: 3, Term: 1, Done: []api.Done{{Index: 3, Term: 1, Result: api.Result{E: api.ErrGone, Version: 1}}}, Log: []api.Entry{commandEntry(t, 1, 3, drop)}})
	want(t, "Reform", c.Do(reform(1, api.Add, 9)), api.Told{Node: 1, Index: 4, Term: 1, Log: []api.Entry{turnEntry(t, 1, 4, api.Add, 9)}})
	want(t, "Reform", c.Do(reform(1, api.Add, 9)), api.Told{E: api.ErrKnown, Node: 1})
	want(t, "Reform", c.Do(reform(1, api.Promote, 9)), api.Told{E: api.ErrBusy, Node: 1})
	for _, tag := range []int{0, 7, -7, math.MinInt, math.MaxInt} {
		want(t, "Ask", c.Do(ask(1, tag)), api.Told{Node: 1, Reads: []api.Read{{Tag: tag, Index: 4}}})
	}
}

// P13.2: what waits is told by the step by which it ends, with its node.
func TestLaterTold(t *testing.T) {
	c := made(t, 3, roomy)
	leads(t, c, 2)
	want(t, "Submit", c.Do(submit(2, putPool("p"))), api.Told{Node: 2, Index: 2, Term: 1})
	want(t, "Ask", c.Do(ask(2, 5)), api.Told{Node: 2})
	want(t, "under way", len(c.Under()), 4)
	want(t, "to 1", c.Do(deliver(2)), api.Told{Node: 1, Log: []api.Entry{noop(1, 1)}})
	want(t, "back", c.Do(deliver(3)), api.Told{Node: 2, Done: []api.Done{{Index: 2, Term: 1, Result: api.Result{Version: 1}}}, Log: []api.Entry{commandEntry(t, 1, 2, putPool("p"))}, Reads: []api.Read{{Tag: 5, Index: 1}}})
}

// P13.2: Deliver of a number that is not under way.
func TestDeliverGone(t *testing.T) {
	c := made(t, 3, roomy)
	for range 13 {
		c.Do(tick(1))
	}
	before := whole(c)
	for _, at := range []int{math.MinInt, -1, 2, 3, math.MaxInt} {
		for _, kind := range []api.StepKind{api.Deliver, api.Lose, api.Double} {
			want(t, "Do", c.Do(api.Step{Kind: kind, At: at, Node: 1, To: 2}), api.Told{E: api.ErrGone})
		}
	}
	want(t, "behind them", whole(c), before)
}

// P13.2: a packet to a node that there is not, and to one that is down: it is gone, and nothing else has changed.
func TestDeliverToNobody(t *testing.T) {
	c := made(t, 2, roomy)
	leads(t, c, 1)
	wantOK(t, c.Do(reform(1, api.Add, 3)).E)
	settle(c)
	c.Do(of(api.Part, 1, 3))
	c.Do(of(api.Heal, 1, 3))
	for range api.Beat {
		c.Do(tick(1))
	}
	wantOK(t, c.Do(api.Step{Kind: api.Double, At: 0}).E)
	wantOK(t, c.Do(crash(2)).E)
	under := messages(t, c)
	want(t, "to", []int{under[0].To, under[1].To, under[2].To}, []int{2, 3, 2})
	one := ofNode(c, 1)
	want(t, "to 3", c.Do(deliver(1)), api.Told{E: api.ErrArg})
	want(t, "under way", messages(t, c), []api.Msg{under[0], under[2]})
	want(t, "to 2", c.Do(deliver(0)), api.Told{E: api.ErrDown, Node: 2})
	want(t, "under way", messages(t, c), under[2:])
	want(t, "to 2", c.Do(deliver(0)), api.Told{E: api.ErrDown, Node: 2})
	want(t, "under way", c.Under(), []api.Packet{})
	want(t, "node 1", ofNode(c, 1), one)
	wantOK(t, c.Do(start(2)).E)
	for range api.Beat {
		c.Do(tick(1))
	}
	want(t, "it is up again", c.Do(deliver(0)).E, api.OK)
}

// P13.2: what a node refuses, or can't keep, is told with its node; the packet was delivered.
func TestDeliverRefused(t *testing.T) {
	c := made(t, 2, logSize)
	for range 13 {
		wantOK(t, c.Do(tick(1)).E)
	}
	want(t, "it is promised", c.Do(deliver(0)), api.Told{Node: 2})
	want(t, "it can't stand", c.Do(deliver(0)), api.Told{E: api.ErrFull, Node: 1})
	want(t, "under way", c.Under(), []api.Packet{})
	want(t, "Role", c.View(1).Role, api.Asker)
}

// P13.2: Lose, Double, with what is under way behind them; neither has a node.
func TestLoseAndDouble(t *testing.T) {
	c := made(t, 3, roomy)
	for range 13 {
		c.Do(tick(1))
	}
	under := messages(t, c)
	want(t, "Double", c.Do(api.Step{Kind: api.Double, Node: 1}), api.Told{})
	want(t, "under way", messages(t, c), append(slices.Clone(under), under[0]))
	want(t, "numbers", numbers(c), []int{1, 2, 3})
	want(t, "Lose", c.Do(api.Step{Kind: api.Lose, Node: 2, At: 1}), api.Told{})
	want(t, "numbers", numbers(c), []int{1, 3})
	want(t, "Deliver", c.Do(deliver(1)), api.Told{Node: 2})
	want(t, "numbers", numbers(c), []int{1, 4})
	for len(c.Under()) < api.MaxFlight {
		want(t, "Double", c.Do(api.Step{Kind: api.Double}), api.Told{})
	}
	before := whole(c)
	want(t, "too many", c.Do(api.Step{Kind: api.Double, Node: 1}), api.Told{E: api.ErrLimit})
	want(t, "ErrGone is named first", c.Do(api.Step{Kind: api.Double, At: api.MaxFlight}), api.Told{E: api.ErrGone})
	want(t, "behind them", whole(c), before)
}

// P13.2: Part and Heal are of links, of nodes that there are not too; neither tells a node.
func TestPartAndHeal(t *testing.T) {
	c := made(t, 3, roomy)
	for range 13 {
		c.Do(tick(1))
	}
	before := whole(c)
	for _, l := range [][2]int{{0, 1}, {1, 0}, {1, 1}, {-1, 2}, {1, api.MaxNode + 1}, {api.MaxNode + 1, 1}, {math.MinInt, math.MaxInt}, {9, 9}} {
		want(t, "Part", c.Do(of(api.Part, l[0], l[1])), api.Told{E: api.ErrArg})
		want(t, "Heal", c.Do(of(api.Heal, l[0], l[1])), api.Told{E: api.ErrArg})
	}
	want(t, "Part", c.Do(of(api.Part, 8, 9)), api.Told{})
	want(t, "Part", c.Do(of(api.Part, 2, 1)), api.Told{})
	want(t, "Heal", c.Do(of(api.Heal, 3, 9)), api.Told{})
	want(t, "behind them", whole(c), before)
	want(t, "Part", c.Do(of(api.Part, 1, 3)), api.Told{})
	want(t, "numbers", numbers(c), []int{1})
	want(t, "again", c.Do(of(api.Part, 1, 3)), api.Told{})
	want(t, "no answer comes through", c.Do(deliver(0)), api.Told{Node: 2})
	want(t, "Under", c.Under(), []api.Packet{})
	want(t, "Heal", c.Do(of(api.Heal, 2, 1)), api.Told{})
	for range 10 {
		c.Do(tick(1))
	}
	want(t, "numbers", numbers(c), []int{3})
	want(t, "the answer comes through", c.Do(deliver(0)), api.Told{Node: 2})
	want(t, "numbers", numbers(c), []int{4})
	want(t, "Heal", c.Do(of(api.Heal, 1, 3)), api.Told{})
	want(t, "it stands", c.Do(deliver(0)), api.Told{Node: 1})
	want(t, "numbers", numbers(c), []int{5, 6})
}

// P13.2: where nothing more may be under way, messages are lost: the first ones get what room there is, and the step is what it is.
func TestFlightIsFull(t *testing.T) {
	c := made(t, 4, roomy)
	leads(t, c, 1)
	for range api.Beat {
		c.Do(tick(1))
	}
	for len(c.Under()) < api.MaxFlight-2 {
		c.Do(api.Step{Kind: api.Double, At: 2})
	}
	want(t, "Submit", c.Do(submit(1, putPool("p"))), api.Told{Node: 1, Index: 2, Term: 1})
	l := messages(t, c)
	want(t, "under way", len(l), api.MaxFlight)
	want(t, "the last two", []int{l[api.MaxFlight-2].To, len(l[api.MaxFlight-2].Entries), l[api.MaxFlight-1].To, len(l[api.MaxFlight-1].Entries)}, []int{2, 1, 3, 1})
	want(t, "Submit", c.Do(submit(1, putPool("q"))), api.Told{Node: 1, Index: 3, Term: 1})
	want(t, "under way", messages(t, c), l)
	want(t, "an answer has the room of what is delivered", c.Do(deliver(0)), api.Told{Node: 2, Log: []api.Entry{noop(1, 1)}})
	want(t, "under way", len(c.Under()), api.MaxFlight)
}

// P13.2: a message that can't be sent is lost: the others go.
func TestSendParted(t *testing.T) {
	c := made(t, 3, roomy)
	c.Do(of(api.Part, 1, 2))
	for range 13 {
		wantOK(t, c.Do(tick(1)).E)
	}
	want(t, "under way", messages(t, c), []api.Msg{{Kind: api.AskPre, From: 1, To: 3, Term: 1}})
	settle(c)
	want(t, "it leads by 3", c.View(1).Role, api.Leader)
	want(t, "View", c.View(2), api.View{Members: voters(3)})
}

// P13.2, E3: a crash leaves term, vote and log; what was under way is so still. Start of one that is up, Crash of one that is down.
func TestCrashAndStart(t *testing.T) {
	c := made(t, 3, roomy)
	want(t, "it is up", c.Do(start(3)), api.Told{E: api.ErrKnown, Node: 3})
	leads(t, c, 1)
	c.Do(submit(1, putPool("p")))
	settle(c)
	for range api.Beat {
		c.Do(tick(1))
	}
	under := shown(c.Under())
	for n := 1; n <= 3; n++ {
		view, entries := c.View(n), shown(c.Entries(n, 0, 9))
		want(t, "Crash", c.Do(crash(n, 3, -1, math.MaxInt)), api.Told{Node: n})
		want(t, "Up", c.Up(n), false)
		want(t, "Crash", c.Do(crash(n)), api.Told{E: api.ErrDown, Node: n})
		want(t, "Start", c.Do(start(n)), api.Told{Node: n})
		want(t, "Up", c.Up(n), true)
		want(t, "View", c.View(n), api.View{Hard: view.Hard, Last: view.Last, Members: voters(3)})
		want(t, "Entries", shown(c.Entries(n, 0, 9)), entries)
		want(t, "Config", c.Config(n), api.Config{})
		want(t, "Start", c.Do(start(n)), api.Told{E: api.ErrKnown, Node: n})
	}
	want(t, "under way", shown(c.Under()), under)
}

// P13.2: of what a step wrote that could not be kept, a crash keeps as many units as it says.
func TestCrashKeeps(t *testing.T) {
	hardSize := 11 // bytes of a Hard's record, of small numbers
	for keep, term := range map[int]int{-1: 0, 0: 0, 10: 0, 11: 1, 99: 1, math.MaxInt: 1} {
		c := made(t, 1, logSize+hardSize)
		for range 12 {
			wantOK(t, c.Do(tick(1)).E)
		}
		want(t, "it has no room for its first entry", c.Do(tick(1)), api.Told{E: api.ErrFull, Node: 1})
		want(t, "Hard", c.View(1).Hard, api.Hard{})
		wantOK(t, c.Do(crash(1, keep)).E)
		wantOK(t, c.Do(start(1)).E)
		want(t, "Hard", c.View(1).Hard, api.Hard{Term: term, Vote: term})
	}
}

// P13.2: nodes are opened with all of the cluster as members, until a snapshot says otherwise.
func TestStartMembers(t *testing.T) {
	c := made(t, 2, roomy)
	leads(t, c, 1)
	wantOK(t, c.Do(reform(1, api.Demote, 2)).E)
	settle(c)
	demoted := api.Members{Voters: []int{1}, Learners: []int{2}}
	want(t, "Members", c.View(1).Members, demoted)
	c.Do(crash(1))
	wantOK(t, c.Do(start(1)).E)
	want(t, "by its log", c.View(1).Members, demoted)
	leads(t, c, 1)
	for range api.SnapEvery {
		wantOK(t, c.Do(submit(1, putPool("p"))).E)
	}
	c.Do(crash(1))
	wantOK(t, c.Do(start(1)).E)
	if v := c.View(1); v.Base.Index == 0 || shown(v.Members) != shown(demoted) {
		t.Errorf("by its snapshot: %+v", v)
	}
}

// P1, P5: numbers of any size in every step.
func TestAnyNumbers(t *testing.T) {
	c := made(t, 2, roomy)
	leads(t, c, 1)
	numbers := []int{math.MinInt, math.MinInt + 1, -1, 0, 1, 2, 3, api.MaxNode, api.MaxNum, math.MaxInt - 1, math.MaxInt}
	for kind := api.NoStep - 1; kind <= api.Ask+1; kind++ {
		for _, a := range numbers {
			for _, b := range numbers {
				c.Do(api.Step{Kind: kind, Node: a, To: b, At: b, Draw: b, Tag: b, Keep: []int{b, a}, Command: api.Command{Act: api.Act(b), Expect: a}, Change: api.Change{Do: api.Do(b), Node: a}})
				c.Entries(a, b, a)
				c.Serve(a, nil, math.Float64frombits(uint64(b)))
			}
		}
	}
	whole(c)
}
