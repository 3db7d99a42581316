package node_test

import (
	"bytes"
	"math"
	"slices"
	"strings"
	"testing"

	"tollgate/api"
	"tollgate/conf"
	"tollgate/disk"
	"tollgate/snap"
	"tollgate/wal"
)

// opened is a pair that is up, on a disk of much room.
func opened(t *testing.T, id int, m api.Members) *pair {
	t.Helper()
	p := newPair(t, disk.New(roomy), id, m)
	wantOK(t, p.open(0))
	return p
}

// asks lets a pair's time run out.
func (p *pair) asks() {
	p.t.Helper()
	for range api.Quiet {
		p.tick(0)
	}
}

// leads lets a pair's time run out, and all others say yes.
func (p *pair) leads() {
	p.t.Helper()
	p.asks()
	for _, kind := range []api.MsgKind{api.SayPre, api.SayVote} {
		for _, from := range p.node.View().Members.Voters {
			v := p.node.View()
			term := v.Hard.Term
			if kind == api.SayPre {
				term++
			}
			if from != p.id && v.Role != api.Leader {
				p.msg(api.Msg{Kind: kind, From: from, To: p.id, Term: term, Ok: true})
			}
		}
	}
	if v := p.node.View(); v.Role != api.Leader {
		p.t.Fatalf("it leads not: %+v", v)
	}
}

// The document's examples.
func TestExamples(t *testing.T) {
	d := disk.New(roomy)
	n := open(t, d, 1, voters(1), 0)
	for range api.Quiet - 1 {
		want(t, "Tick", n.Tick(0), api.Out{})
	}
	want(t, "Tick", n.Tick(0), api.Out{Log: rowOf(1, 1)})
	entry := command(t, 1, 2, putPool("p"))
	want(t, "Submit", n.Submit(putPool("p")), api.Out{Index: 2, Term: 1, Done: []api.Done{{Index: 2, Term: 1, Result: api.Result{Version: 1}}}, Log: []api.Entry{entry}})
	d.Crash(nil)
	n = open(t, d, 1, voters(1), 0)
	want(t, "View", n.View(), api.View{Hard: api.Hard{Term: 1, Vote: 1}, Last: 2, Members: voters(1)})
	want(t, "Entries", n.Entries(1, 2), []api.Entry{noop(1, 1), entry})
	want(t, "Config", n.Config(), api.Config{})
	for range api.Quiet - 1 {
		want(t, "Tick", n.Tick(0), api.Out{})
	}
	want(t, "Tick", n.Tick(0), api.Out{Log: []api.Entry{noop(1, 1), entry, noop(2, 3)}, Done: []api.Done{{Index: 2, Term: 1, Result: api.Result{Version: 1}}}})
	want(t, "Config", n.Config().Version, 1)
	want(t, "Applied", n.Applied(), 3)
}

// P12.2: bytes that are no message, each error of wire.GetMsg; nothing has changed behind them.
func TestTakeNoMessage(t *testing.T) {
	p := opened(t, 1, voters(1, 2))
	good := bytesOf(t, appends(2, 1, 1, api.Mark{}, 0, noop(1, 1)))
	before := inside(p.node) + onDisk(p.disk)
	for at := range good {
		want(t, "cut short", p.take(good[:at], 0).E, api.ErrShort)
	}
	want(t, "nil", p.node.Take(nil, 0), api.Out{E: api.ErrShort})
	for _, x := range []struct {
		b string
		e api.Errno
	}{
		{string(good) + "\x00", api.ErrForm}, {"\x00", api.ErrForm}, {"\x08", api.ErrForm}, {"\x01\x00", api.ErrForm}, {"\x01\x0a", api.ErrForm}, {"\x01\x01\x0a", api.ErrForm},
		{"\x01\x01\x02\x02", api.ErrForm}, {"\x01\x01\x02\x00\x80\x00", api.ErrForm}, {"\x01\x01\x02\x00\xff\xff\xff\xff\xff\xff", api.ErrLimit},
		{"\x05\x01\x02\x00\x00\x00\x00\x00\x00\x00\x09", api.ErrLimit},
	} {
		want(t, shown(x), p.take([]byte(x.b), 0), api.Out{E: x.e})
	}
	want(t, "behind all of them", inside(p.node)+onDisk(p.disk), before)
}

// P12.2: messages that the core refuses: nothing has changed, on the disk too.
func TestTakeRefused(t *testing.T) {
	p := opened(t, 1, voters(1, 2))
	p.leads()
	before := inside(p.node) + onDisk(p.disk)
	bad := install(t, 2, 1, 9, snapOf(7, 8, voters(1)))
	bad.Data[len(bad.Data)-1] ^= 1
	off := install(t, 2, 1, 9, snapOf(7, 8, voters(1)))
	off.Index++
	for _, m := range []api.Msg{
		appends(2, 2, 9, api.Mark{}, 0), appends(1, 1, 9, api.Mark{}, 0), appends(2, 1, api.MaxNum/2+1, api.Mark{}, 0), appends(2, 1, 9, api.Mark{}, api.MaxNum/2+1),
		appends(2, 1, 9, api.Mark{}, 0, noop(1, 2)), appends(2, 1, 9, api.Mark{Index: 1, Term: 2}, 0, noop(1, 2)), appends(2, 1, 9, api.Mark{}, 0, noop(10, 1)),
		bad, off, install(t, 2, 1, 7, snapOf(7, 8, voters(1))),
	} {
		want(t, shown(m), p.msg(m), api.Out{E: api.ErrArg})
	}
	want(t, "behind all of them", inside(p.node)+onDisk(p.disk), before)
}

// P12.2: messages of each kind to a node that follows: what it answers, and what it keeps ahead of that.
func TestTakeKinds(t *testing.T) {
	s := snapOf(6, 2, voters(1, 2, 3), putPool("p"))
	for _, x := range []struct {
		m, answer api.Msg
		hard      api.Hard
		log       []api.Entry
	}{
		{api.Msg{Kind: api.AskPre, From: 2, To: 1, Term: 4}, api.Msg{Kind: api.SayPre, From: 1, To: 2, Term: 4, Ok: true}, api.Hard{}, nil},
		{api.Msg{Kind: api.SayPre, From: 2, To: 1, Term: 4}, api.Msg{}, api.Hard{Term: 4}, nil},
		{api.Msg{Kind: api.AskVote, From: 3, To: 1, Term: 4}, api.Msg{Kind: api.SayVote, From: 1, To: 3, Term: 4, Ok: true}, api.Hard{Term: 4, Vote: 3}, nil},
		{api.Msg{Kind: api.SayVote, From: 2, To: 1, Term: 5, Ok: true}, api.Msg{}, api.Hard{Term: 5}, nil},
		{appends(2, 1, 4, api.Mark{}, 0, rowOf(1, 2, 3)...), api.Msg{Kind: api.Say, From: 1, To: 2, Term: 4, Index: 2, Ok: true}, api.Hard{Term: 4}, rowOf(1, 2, 3)},
		{appends(2, 1, 4, api.Mark{Index: 3, Term: 2}, 0, noop(3, 4)), api.Msg{Kind: api.Say, From: 1, To: 2, Term: 4, Hint: 1}, api.Hard{Term: 4}, nil},
		{install(t, 3, 1, 4, s), api.Msg{Kind: api.Say, From: 1, To: 3, Term: 4, Index: 6, Ok: true}, api.Hard{Term: 4}, nil},
		{api.Msg{Kind: api.Say, From: 2, To: 1, Term: 6, Ok: true}, api.Msg{}, api.Hard{Term: 6}, nil},
	} {
		p := opened(t, 1, voters(1, 2, 3))
		o := p.msg(x.m)
		var answers []api.Msg
		if x.answer.Kind != api.NoMsg {
			answers = []api.Msg{x.answer}
		}
		want(t, shown(x.m), read(t, o.Msgs), answers)
		o.Msgs = nil
		want(t, shown(x.m), o, api.Out{})
		want(t, shown(x.m), p.node.View().Hard, x.hard)
		for _, units := range []int{0, 3, math.MaxInt} {
			d := p.disk.Fork()
			d.Crash([]int{units, units})
			n := open(t, d, 1, p.first, 0)
			want(t, "behind a crash", n.View().Hard, x.hard)
			want(t, "behind a crash", n.Entries(0, math.MaxInt), x.log)
		}
	}
}

// wrongCommands are refused ahead of all else, each by its name.
func wrongCommands() map[api.Errno][]api.Command {
	pool := func(change func(c *api.Command)) api.Command {
		c := putPool("p")
		change(&c)
		return c
	}
	return map[api.Errno][]api.Command{
		api.ErrArg: {
			{}, pool(func(c *api.Command) { c.Act = api.DropRoute + 1 }), pool(func(c *api.Command) { c.Client = api.MaxClient + 1 }), pool(func(c *api.Command) { c.Seq = 1 }),
			pool(func(c *api.Command) { c.Client = 1 }), pool(func(c *api.Command) { c.Expect = -2 }), pool(func(c *api.Command) { c.Host = "a" }), pool(func(c *api.Command) { c.Act, c.Pool = api.DropPool, "" }),
		},
		api.ErrName: {
			putPool(""), putPool("P"), putPool(strings.Repeat("p", api.MaxName+1)), putRoute("a..b", "/", "p"), putRoute("a", "x", "p"), putRoute("a", "/", ""),
			pool(func(c *api.Command) { c.Targets[0].Addr = "" }),
		},
		api.ErrWeight: {
			pool(func(c *api.Command) { c.Targets[1].Weight = math.NaN() }), pool(func(c *api.Command) { c.Targets[1].Weight = -1 }), pool(func(c *api.Command) { c.Targets[0].Weight = math.Inf(1) }),
		},
		api.ErrLimit: {
			pool(func(c *api.Command) { c.Targets = slices.Repeat(c.Targets, api.MaxTargets) }),
		},
	}
}

// P12.2: conf.PutCommand's error ahead of ErrLeader; Submit where it leads not, and where it leads.
func TestSubmitRefused(t *testing.T) {
	follows, leads := opened(t, 1, voters(1, 2)), opened(t, 1, voters(1))
	leads.leads()
	for _, p := range []*pair{follows, leads} {
		before := inside(p.node) + onDisk(p.disk)
		for e, l := range wrongCommands() {
			for _, c := range l {
				want(t, shown(c), p.submit(c), api.Out{E: e})
			}
		}
		want(t, "behind all of them", inside(p.node)+onDisk(p.disk), before)
	}
	want(t, "who leads not", follows.submit(putPool("p")), api.Out{E: api.ErrLeader})
	wantOK(t, leads.submit(putPool("p")).E)
}

// P12.2: the log is full as long as nobody answers: MaxLog entries, and then ErrBusy; Index and Term are told, and nothing is done.
func TestSubmitBusy(t *testing.T) {
	p := opened(t, 1, voters(1, 2, 3))
	p.leads()
	for i := 2; i <= api.MaxLog; i++ {
		o := p.submit(putPool("p"))
		want(t, "Submit", api.Out{E: o.E, Index: o.Index, Term: o.Term, Done: o.Done, Log: o.Log, Reads: o.Reads}, api.Out{Index: i, Term: 1})
		if l := read(t, o.Msgs); len(l) != 2 || l[0].To != 2 || l[1].To != 3 || l[0].Kind != api.Append {
			t.Fatalf("it sends %s", shown(l))
		}
	}
	before := inside(p.node) + onDisk(p.disk)
	want(t, "Submit", p.submit(putPool("p")), api.Out{E: api.ErrBusy})
	want(t, "Change", p.change(api.Change{Do: api.Add, Node: 4}), api.Out{E: api.ErrBusy})
	want(t, "Read", p.read(1), api.Out{E: api.ErrBusy})
	want(t, "behind them", inside(p.node)+onDisk(p.disk), before)
}

// P12.2: commands are done when they are committed, in order, each with its index, its own term and what it came to.
func TestSubmitDone(t *testing.T) {
	p := opened(t, 1, voters(1, 2, 3))
	p.leads()
	l := []api.Command{putPool("p"), putRoute("a", "/", "p"), nothing(), putRoute("b.c", "/x", "q"), {Act: api.DropPool, Expect: -1, Pool: "p"}, {Act: api.PutPool, Expect: 1, Pool: "q"}}
	log := []api.Entry{noop(1, 1)}
	var done []api.Done
	s := conf.New()
	for i, c := range l {
		want(t, "Index", p.submit(c).Index, i+2)
		log = append(log, command(t, 1, i+2, c))
		done = append(done, api.Done{Index: i + 2, Term: 1, Result: s.Do(c)})
	}
	want(t, "Applied", p.node.Applied(), 0)
	say := func(index int) api.Out {
		o := p.msg(api.Msg{Kind: api.Say, From: 2, To: 1, Term: 1, Index: index, Ok: true})
		o.Msgs = nil
		return o
	}
	want(t, "up to 3", say(3), api.Out{Log: log[:3], Done: done[:2]})
	want(t, "again", say(3), api.Out{})
	want(t, "Applied", p.node.Applied(), 3)
	want(t, "up to 7", say(7), api.Out{Log: log[3:], Done: done[2:]})
	want(t, "Config", p.node.Config(), s.Config())
	want(t, "errors", []api.Errno{done[2].Result.E, done[3].Result.E, done[4].Result.E, done[5].Result.E}, []api.Errno{api.ErrGone, api.ErrGone, api.ErrBusy, api.ErrStale})
}

// P12.2, E4: what a client submits again is done once, and it is told the same.
func TestSubmitAgain(t *testing.T) {
	p := opened(t, 1, voters(1))
	p.leads()
	c := putPool("p")
	c.Client, c.Seq = 3, 1
	for i := 2; i < 6; i++ {
		want(t, "Done", p.submit(c).Done, []api.Done{{Index: i, Term: 1, Result: api.Result{Version: 1}}})
	}
	want(t, "Config", p.node.Config().Version, 1)
}

// P12.2: a node that follows does what it is told is committed; a Done's Term is its entry's, and bytes that are no command come to ErrForm and the Version.
func TestApplyAnyData(t *testing.T) {
	p := opened(t, 1, voters(1, 2, 3))
	good, _ := conf.PutCommand(putPool("q"))
	log := []api.Entry{
		command(t, 2, 1, putPool("p")), data(2, 2, ""), data(3, 3, "none"), data(3, 4, string(good[:len(good)-1])), data(3, 5, string(good)+"\x00"),
		{Kind: api.Turn, Term: 4, Index: 6}, {Kind: api.Turn, Term: 4, Index: 7, Data: []byte("none")}, noop(4, 8),
	}
	o := p.msg(appends(2, 1, 6, api.Mark{}, 0, log...))
	want(t, "Done", o.Done, []api.Done{})
	want(t, "Log", o.Log, []api.Entry{})
	o = p.msg(appends(2, 1, 6, api.Mark{Index: 8, Term: 4}, 9, data(5, 9, string(bytes.Repeat([]byte{0xff}, api.MaxData)))))
	bad := api.Result{E: api.ErrForm, Version: 1}
	want(t, "Done", o.Done, []api.Done{{Index: 1, Term: 2, Result: api.Result{Version: 1}}, {Index: 2, Term: 2, Result: bad}, {Index: 3, Term: 3, Result: bad}, {Index: 4, Term: 3, Result: bad}, {Index: 5, Term: 3, Result: bad}, {Index: 9, Term: 5, Result: bad}})
	want(t, "Log", o.Log[:8], log)
	want(t, "Log", len(o.Log), 9)
	want(t, "Index and Term", []int{o.Index, o.Term}, []int{0, 0})
	want(t, "Config", p.node.Config().Version, 1)
	want(t, "Members", p.node.View().Members, voters(1, 2, 3))
}

// P12.2: Change tells Index and Term as Submit does, what it did stands in Log and never in Done; the core's errors by their names, and in their order.
func TestChange(t *testing.T) {
	p := opened(t, 1, voters(1))
	want(t, "who leads not", p.change(api.Change{Do: api.Add, Node: 2}), api.Out{E: api.ErrLeader})
	want(t, "who leads not", p.change(api.Change{}), api.Out{E: api.ErrLeader})
	p.leads()
	for _, x := range []struct {
		change api.Change
		e      api.Errno
	}{
		{api.Change{}, api.ErrArg}, {api.Change{Do: api.Remove + 1, Node: 2}, api.ErrArg}, {api.Change{Do: api.Add}, api.ErrArg}, {api.Change{Do: api.Add, Node: api.MaxNode + 1}, api.ErrArg},
		{api.Change{Do: api.Add, Node: 1}, api.ErrKnown}, {api.Change{Do: api.Promote, Node: 2}, api.ErrGone}, {api.Change{Do: api.Demote, Node: 2}, api.ErrGone}, {api.Change{Do: api.Remove, Node: 2}, api.ErrGone},
		{api.Change{Do: api.Remove, Node: 1}, api.ErrLimit}, {api.Change{Do: api.Demote, Node: 1}, api.ErrLimit},
	} {
		want(t, shown(x), p.change(x.change), api.Out{E: x.e})
	}
	o := p.change(api.Change{Do: api.Add, Node: 2})
	want(t, "Add", read(t, o.Msgs)[0].To, 2)
	o.Msgs = nil
	want(t, "Add", o, api.Out{Index: 2, Term: 1, Log: []api.Entry{turn(t, 1, 2, api.Add, 2)}})
	want(t, "Promote of one that has nothing", p.change(api.Change{Do: api.Promote, Node: 2}), api.Out{E: api.ErrBusy})
	p.msg(api.Msg{Kind: api.Say, From: 2, To: 1, Term: 1, Index: 2, Ok: true})
	o = p.change(api.Change{Do: api.Promote, Node: 2})
	want(t, "Promote", []int{o.Index, o.Term, len(o.Log), len(o.Done)}, []int{3, 1, 0, 0})
	want(t, "a second one", p.change(api.Change{Do: api.Add, Node: 3}), api.Out{E: api.ErrBusy})
	o = p.msg(api.Msg{Kind: api.Say, From: 2, To: 1, Term: 1, Index: 3, Ok: true})
	want(t, "Log", o.Log, []api.Entry{turn(t, 1, 3, api.Promote, 2)})
}

// P12.2: who takes itself out tells the term in which it did, and leads no longer.
func TestChangeOfItself(t *testing.T) {
	p := opened(t, 1, voters(1, 2))
	p.leads()
	p.msg(api.Msg{Kind: api.Say, From: 2, To: 1, Term: 1, Index: 1, Ok: true})
	o := p.change(api.Change{Do: api.Demote, Node: 1})
	want(t, "Demote", []int{o.Index, o.Term}, []int{2, 1})
	o = p.msg(api.Msg{Kind: api.Say, From: 2, To: 1, Term: 1, Index: 2, Ok: true})
	want(t, "Log", o.Log, []api.Entry{turn(t, 1, 2, api.Demote, 1)})
	want(t, "Role", p.node.View().Role, api.Follower)
	want(t, "Submit", p.submit(putPool("p")), api.Out{E: api.ErrLeader})
}

// P12.2: reads pass with what is committed; neither Index nor Term is told.
func TestRead(t *testing.T) {
	p := opened(t, 1, voters(1))
	want(t, "who leads not", p.read(5), api.Out{E: api.ErrLeader})
	p.leads()
	p.submit(putPool("p"))
	for _, tag := range []int{0, 7, 7, -1, math.MinInt, math.MaxInt} {
		want(t, "Read", p.read(tag), api.Out{Reads: []api.Read{{Tag: tag, Index: 2}}})
	}
	p = opened(t, 1, voters(1, 2))
	p.leads()
	want(t, "nothing of its term is committed", p.read(5), api.Out{E: api.ErrBusy})
	p.msg(api.Msg{Kind: api.Say, From: 2, To: 1, Term: 1, Index: 1, Ok: true})
	for tag := range api.MaxReads {
		o := p.read(tag)
		want(t, "Read", []int{int(o.E), o.Index, o.Term, len(o.Reads), len(o.Msgs)}, []int{0, 0, 0, 0, 1})
		want(t, "Round", read(t, o.Msgs)[0].Round, tag+1)
	}
	want(t, "too many", p.read(99), api.Out{E: api.ErrBusy})
	o := p.msg(api.Msg{Kind: api.Say, From: 2, To: 1, Term: 1, Index: 1, Round: 2, Ok: true})
	want(t, "two pass", o, api.Out{Reads: []api.Read{{Tag: 0, Index: 1}, {Tag: 1, Index: 1}}})
}

// P12.2: a snapshot takes the place of log, store and members; entries behind its mark stay where the log has it, and later ones are applied to it.
func TestInstall(t *testing.T) {
	m := api.Members{Voters: []int{1, 2}, Learners: []int{5}}
	s := snapOf(4, 2, m, putPool("p"), putRoute("a", "/", "p"))
	for _, x := range []struct {
		log, left []api.Entry
	}{
		{nil, nil}, {rowOf(1, 1, 1), nil}, {rowOf(1, 1, 1, 2, 2), nil}, {rowOf(1, 1, 1, 2, 2, 2, 3), rowOf(5, 2, 3)}, {rowOf(1, 1, 1, 1, 1, 1, 3), nil},
	} {
		p := opened(t, 1, voters(1, 2, 3))
		p.msg(appends(3, 1, 3, api.Mark{}, 1, x.log...))
		o := p.msg(install(t, 2, 1, 5, s))
		want(t, "Say", read(t, o.Msgs), []api.Msg{{Kind: api.Say, From: 1, To: 2, Term: 5, Index: 4, Ok: true}})
		o.Msgs = nil
		want(t, "Install", o, api.Out{})
		want(t, "View", p.node.View(), api.View{Leader: 2, Hard: api.Hard{Term: 5}, Base: s.Mark, Commit: 4, Last: 4 + len(x.left), Members: m})
		want(t, "Entries", p.node.Entries(0, math.MaxInt), x.left)
		want(t, "Applied", p.node.Applied(), 4)
		want(t, "Serve", p.node.Serve([]byte(requests()[0]), 0), api.Reply{Status: 200, Version: 2, Pool: "p", Addr: "p:1"})
		kept, e := snap.Load(p.disk)
		wantOK(t, e)
		want(t, "the disk's", kept, s)
		for _, units := range []int{0, 9, math.MaxInt} {
			d := p.disk.Fork()
			d.Crash([]int{units, units})
			n := open(t, d, 1, voters(9), 0)
			want(t, "behind a crash", n.View(), api.View{Hard: api.Hard{Term: 5}, Base: s.Mark, Commit: 4, Last: 4 + len(x.left), Members: m})
			want(t, "behind a crash", n.Entries(0, math.MaxInt), x.left)
			want(t, "behind a crash", n.Config(), p.node.Config())
		}
		at := api.Mark{Index: 4, Term: 2}
		o = p.msg(appends(2, 1, 5, at, 5, command(t, 5, 5, putRoute("a", "/x", "p"))))
		want(t, "the next one", o.Done, []api.Done{{Index: 5, Term: 5, Result: api.Result{Version: 3}}})
	}
}

// P12.2: an Install that is not above Commit changes nothing.
func TestInstallElder(t *testing.T) {
	p := opened(t, 1, voters(1, 2))
	p.msg(appends(2, 1, 3, api.Mark{}, 2, command(t, 1, 1, putPool("q")), noop(1, 2), noop(1, 3)))
	before := inside(p.node) + onDisk(p.disk)
	bad := snapOf(2, 1, voters(1))
	bad.Data = []byte("no store, but nobody looks")
	for _, s := range []api.Snap{snapOf(1, 1, voters(1)), snapOf(2, 1, voters(2), putPool("p")), bad} {
		o := p.msg(install(t, 2, 1, 3, s))
		want(t, "Say", read(t, o.Msgs), []api.Msg{{Kind: api.Say, From: 1, To: 2, Term: 3, Index: 2, Ok: true}})
	}
	want(t, "behind it", inside(p.node)+onDisk(p.disk), before)
}

// P12.2: a Snap whose Data conf.Load refuses is ErrForm, ahead of keeping: neither core nor disk has anything of it, not even the term; ahead of a disk's errors too.
func TestInstallNoStore(t *testing.T) {
	good := stored(putPool("p"))
	for _, b := range [][]byte{nil, good[:len(good)-1], append(bytes.Clone(good), 0), []byte("none"), {0x80}, {0, 33}} {
		p := opened(t, 1, voters(1, 2))
		p.msg(appends(2, 1, 3, api.Mark{}, 1, noop(1, 1), noop(1, 2)))
		before := inside(p.node) + onDisk(p.disk)
		m := install(t, 2, 1, 8, api.Snap{Mark: api.Mark{Index: 5, Term: 4}, Members: voters(2), Data: b})
		want(t, "Install", p.msg(m), api.Out{E: api.ErrForm})
		want(t, "behind it", inside(p.node)+onDisk(p.disk), before)
		want(t, "its clock goes on", p.tick(0), api.Out{})

		d := disk.New(22)
		n := open(t, d, 1, voters(1, 2), 0)
		want(t, "on a full disk", n.Take(bytesOf(t, m), 0), api.Out{E: api.ErrForm})
		m.Data, _ = snap.Put(snapOf(5, 4, voters(2)))
		want(t, "one that can be loaded", n.Take(bytesOf(t, m), 0), api.Out{E: api.ErrFull})
	}
}

// P12.2, P12.5: a store that is older than the gate's leaves the gate as it is; the node's configuration is the store's.
func TestInstallOlderVersion(t *testing.T) {
	p := opened(t, 1, voters(1, 2))
	p.msg(appends(2, 1, 3, api.Mark{}, 2, command(t, 1, 1, putPool("p")), command(t, 1, 2, putRoute("a", "/", "p"))))
	p.msg(install(t, 2, 1, 3, snapOf(5, 2, voters(1, 2), putPool("q"))))
	want(t, "Config", p.node.Config(), api.Config{Version: 1, Pools: []api.Pool{{Name: "q", Targets: putPool("q").Targets}}})
	want(t, "Serve", p.node.Serve([]byte(requests()[0]), 0), api.Reply{Status: 200, Version: 2, Pool: "p", Addr: "p:1"})
	p.msg(appends(2, 1, 3, api.Mark{Index: 5, Term: 2}, 7, command(t, 3, 6, putRoute("b.c", "/", "q")), command(t, 3, 7, putRoute("b.c", "/x", "q"))))
	want(t, "Serve", p.node.Serve([]byte(requests()[3]), 0), api.Reply{Status: 200, Version: 3, Pool: "q", Addr: "q:1"})
}

// P12.2: entries that a later leader puts in the place of others are kept so; what a step tells lasts ahead of its being told.
func TestKeepOverwrites(t *testing.T) {
	p := opened(t, 1, voters(1, 2, 3))
	p.msg(appends(2, 1, 2, api.Mark{}, 1, rowOf(1, 1, 1, 1, 2)...))
	p.msg(appends(3, 1, 3, api.Mark{Index: 2, Term: 1}, 1, noop(3, 3)))
	want(t, "Entries", p.node.Entries(0, 9), rowOf(1, 1, 1, 3))
	d := p.disk.Fork()
	d.Crash(nil)
	l, e := wal.Open(d)
	wantOK(t, e)
	want(t, "behind a crash", l.Entries(0, 9), rowOf(1, 1, 1, 3))
	want(t, "behind a crash", l.Hard(), api.Hard{Term: 3})
}

// P12.2: the draw of Take begins the clock anew: so many ticks later the node asks.
func TestTakeDraws(t *testing.T) {
	for draw, wait := range map[int]int{0: 10, 4: 14, 9: 19, -1: 15} {
		n := open(t, disk.New(roomy), 1, voters(1, 2), 0)
		n.Take(bytesOf(t, appends(2, 1, 1, api.Mark{}, 0)), draw)
		ticks := 1
		for len(n.Tick(0).Msgs) == 0 {
			ticks++
		}
		want(t, shown(draw), ticks, wait)
	}
}

// P1, P5: numbers of any size where a node takes some, and nothing of it panics.
func TestAnyNumbers(t *testing.T) {
	p := opened(t, 1, voters(1, 2))
	p.leads()
	numbers := []int{math.MinInt, math.MinInt + 1, -1, 0, 1, 2, api.MaxNode, api.MaxNum, api.MaxNum + 1, math.MaxInt - 1, math.MaxInt}
	for _, a := range numbers {
		p.tick(a)
		p.read(a)
		for _, b := range numbers {
			p.change(api.Change{Do: api.Do(a), Node: b})
			p.submit(api.Command{Act: api.Act(a), Client: b, Seq: a, Expect: b})
			p.node.Entries(a, b)
			p.node.Serve([]byte(requests()[0]), math.Float64frombits(uint64(a)^uint64(b)))
		}
	}
}

// P5: a node whose disk is at the end of all terms asks on, and what no longer is a message has no bytes; its term is never one that could not be kept.
func TestLastTerm(t *testing.T) {
	d := disk.New(roomy)
	plantLog(t, d, api.Mark{}, api.Hard{Term: api.MaxNum})
	p := newPair(t, d, 1, voters(1, 2))
	wantOK(t, p.open(0))
	for range api.Quiet - 1 {
		p.tick(0)
	}
	want(t, "it asks", p.tick(0), api.Out{Msgs: []api.Packet{{From: 1, To: 2}}})
	p = newPair(t, d, 1, voters(1))
	wantOK(t, p.open(0))
	for range api.Quiet - 1 {
		p.tick(0)
	}
	for range 3 {
		want(t, "it can't stand", p.tick(0), api.Out{E: api.ErrArg})
	}
	want(t, "Hard", p.node.View().Hard, api.Hard{Term: api.MaxNum})
}
