package admin_test

import (
	"math"
	"slices"
	"testing"

	"tollgate/admin"
	"tollgate/api"
)

// P14.1: numbers of nodes that may not be; a room in which no node opens is none the less a desk's.
func TestNew(t *testing.T) {
	for _, nodes := range []int{math.MinInt, -1, 0, api.MaxNodes + 1, math.MaxInt} {
		if d, e := admin.New(nodes, roomy); d != nil || e != api.ErrArg {
			t.Errorf("New(%d): %t, error %d", nodes, d != nil, e)
		}
	}
	for nodes := 1; nodes <= api.MaxNodes; nodes++ {
		d := made(t, nodes, roomy)
		want(t, "a new desk", whole(d, nodes), whole(nil, nodes))
		wantOK(t, d.Do(tick(nodes)).E)
		want(t, "Tick", d.Do(tick(nodes+1)).E, api.ErrArg)
	}
	d := made(t, 1, -5)
	asked(t, d, 1, op(putPool("p")))
	n, e := d.Try(1, 1)
	wantBoth(t, "Try", n, e, 0, api.ErrDown)
	want(t, "Start", d.Do(start(1)), api.Told{E: api.ErrFull, Node: 1})
	want(t, "Leader", d.Leader(), 0)
}

// P1: of a nil desk there is nothing.
func TestNil(t *testing.T) {
	var d *admin.Desk
	for _, a := range strange() {
		n, e := d.Ask(a, op(putPool("p")))
		wantBoth(t, "Ask", n, e, 0, api.ErrNil)
		n, e = d.Try(a, a)
		wantBoth(t, "Try", n, e, 0, api.ErrNil)
		want(t, "Do", d.Do(api.Step{Kind: api.StepKind(a), Node: 1}), api.Told{E: api.ErrNil})
		want(t, "Config", d.Config(a), api.Config{})
	}
	want(t, "Do", d.Do(api.Step{Kind: api.Submit}), api.Told{E: api.ErrNil})
	want(t, "History", d.History(), []api.Record{})
	want(t, "Log", d.Log(), []api.Entry{})
	want(t, "Leader", d.Leader(), 0)
}

// P14.1: who may ask; refused ones leave nothing but the clock.
func TestAskClient(t *testing.T) {
	d := made(t, 1, roomy)
	for _, client := range []int{math.MinInt, -1, 0, api.MaxClient + 1, math.MaxInt} {
		for _, o := range []api.Op{look(), op(putPool("p")), op(api.Command{})} {
			n, e := d.Ask(client, o)
			wantBoth(t, "Ask", n, e, 0, api.ErrArg)
		}
	}
	want(t, "History", d.History(), []api.Record{})
	for client := 1; client <= api.MaxClient; client++ {
		n, e := d.Ask(client, op(putPool("p")))
		wantBoth(t, "Ask", n, e, client, api.OK)
		want(t, "record", record(d, client), api.Record{Op: op(by(client, 1, putPool("p"))), From: 15 + client})
	}
}

// P14.1: one at a time, a Look too; ErrBusy is named ahead of what Check says.
func TestAskBusy(t *testing.T) {
	d := made(t, 1, roomy)
	leads(t, d, 1)
	for _, first := range []api.Op{op(putPool("p")), look()} {
		number := asked(t, d, 3, first)
		for _, o := range []api.Op{op(putPool("q")), look(), op(api.Command{})} {
			n, e := d.Ask(3, o)
			wantBoth(t, "Ask", n, e, 0, api.ErrBusy)
		}
		tried(t, d, number, 1)
	}
	want(t, "History", len(d.History()), 2)
	want(t, "answered, it may ask", asked(t, d, 3, look()), 3)
	want(t, "others may ask", asked(t, d, 4, look()), 4)
}

// P14.1: commands that may not be, each by its name; they take no Seq.
func TestAskCheck(t *testing.T) {
	d := made(t, 1, roomy)
	many := slices.Repeat([]api.Target{{Addr: "a", Weight: 1}}, api.MaxTargets+1)
	for _, x := range []struct {
		command api.Command
		e       api.Errno
	}{
		{api.Command{}, api.ErrArg},
		{api.Command{Act: api.DropRoute + 1, Expect: -1, Pool: "p"}, api.ErrArg},
		{api.Command{Act: api.PutPool, Expect: -2, Pool: "p"}, api.ErrArg},
		{api.Command{Act: api.PutPool, Expect: -1, Pool: "p", Host: "a"}, api.ErrArg},
		{api.Command{Act: api.PutPool, Expect: -1, Pool: "P"}, api.ErrName},
		{api.Command{Act: api.PutPool, Expect: -1}, api.ErrName},
		{api.Command{Act: api.PutRoute, Expect: -1, Host: "a", Prefix: "x", Pool: "p"}, api.ErrName},
		{api.Command{Act: api.PutPool, Expect: -1, Pool: "p", Targets: []api.Target{{Addr: "a", Weight: -1}}}, api.ErrWeight},
		{api.Command{Act: api.PutPool, Expect: -1, Pool: "p", Targets: []api.Target{{Addr: "a", Weight: math.NaN()}}}, api.ErrWeight},
		{api.Command{Act: api.PutPool, Expect: -1, Pool: "p", Targets: many}, api.ErrLimit},
	} {
		n, e := d.Ask(1, op(x.command))
		wantBoth(t, shown(x.command), n, e, 0, x.e)
	}
	want(t, "History", d.History(), []api.Record{})
	asked(t, d, 1, op(putPool("p")))
	want(t, "record", record(d, 1), api.Record{Op: op(by(1, 1, putPool("p"))), From: 11})
}

// P14.1: whose a command is, and the how manieth, the desk says; of a Look nothing is looked at.
func TestAskRecord(t *testing.T) {
	d := made(t, 1, roomy)
	clock := 13
	for range clock {
		d.Do(tick(1))
	}
	for i, client := range []int{2, 2, 5, 2, 5} {
		said := []int{math.MinInt, 0, 1, 99, math.MaxInt}[i]
		n := asked(t, d, client, op(by(said, said, putPool("p"))))
		clock++
		want(t, "number", n, 2*i+1)
		want(t, "record", record(d, n), api.Record{Op: op(by(client, []int{1, 2, 1, 3, 2}[i], putPool("p"))), From: clock})
		tried(t, d, n, 1)
		m := asked(t, d, client, api.Op{Look: true, Command: api.Command{Act: 99, Client: 7, Targets: []api.Target{{Addr: "x"}}}})
		clock += 2
		want(t, "a Look", record(d, m), api.Record{Op: look(), From: clock})
		tried(t, d, m, 1)
		clock++
	}
}

// The clock is 1 further with each call of Ask, Try and Do, refused ones too, and with no other one.
func TestClock(t *testing.T) {
	calls := []func(d *admin.Desk){
		func(d *admin.Desk) { d.Ask(0, look()) },
		func(d *admin.Desk) { d.Ask(1, op(api.Command{})) },
		func(d *admin.Desk) { d.Ask(1, look()) },
		func(d *admin.Desk) { d.Ask(1, look()) },
		func(d *admin.Desk) { d.Try(9, 1) },
		func(d *admin.Desk) { d.Try(1, 1) },
		func(d *admin.Desk) { d.Try(1, 2) },
		func(d *admin.Desk) { d.Do(api.Step{}) },
		func(d *admin.Desk) { d.Do(api.Step{Kind: api.Submit}) },
		func(d *admin.Desk) { d.Do(api.Step{Kind: api.Ask}) },
		func(d *admin.Desk) { d.Do(tick(1)) },
		func(d *admin.Desk) { d.Do(tick(2)) },
		func(d *admin.Desk) { d.Do(deliver(0)) },
		func(d *admin.Desk) { d.Do(start(1)) },
	}
	d := made(t, 1, roomy)
	for i, call := range calls {
		call(d)
		d.History()
		d.Log()
		d.Leader()
		d.Config(1)
		n := asked(t, d, i+2, look())
		want(t, "the clock", record(d, n).From, 2*(i+1))
	}
}

// P14.2, example 1: a command that is answered at once, and a Look at what it made.
func TestTryOfOneNode(t *testing.T) {
	d := made(t, 1, roomy)
	asked(t, d, 1, op(putPool("p")))
	for range 13 {
		d.Do(tick(1))
	}
	tried(t, d, 1, 1)
	want(t, "record", record(d, 1), api.Record{Op: op(by(1, 1, putPool("p"))), From: 1, To: 15, Index: 2, Result: api.Result{Version: 1}})
	want(t, "Log", d.Log(), []api.Entry{noop(1, 1), entry(t, 2, by(1, 1, putPool("p")))})
	asked(t, d, 1, look())
	tried(t, d, 2, 1)
	want(t, "record", record(d, 2), api.Record{Op: look(), From: 16, To: 17, Index: 2, Config: d.Config(1)})
	want(t, "Config", d.Config(1), api.Config{Version: 1, Pools: []api.Pool{{Name: "p", Targets: putPool("p").Targets}}})
	asked(t, d, 1, op(api.Command{Act: api.DropPool, Expect: -1, Pool: "q"}))
	tried(t, d, 3, 1)
	r := record(d, 3)
	want(t, "one that comes to an error is answered too", []int{r.To, r.Index, int(r.Result.E), r.Result.Version}, []int{19, 3, int(api.ErrGone), 1})
	explained(t, d)
}

// P14.2: records that there are not, and such that are answered; wherever they are tried.
func TestTryRefused(t *testing.T) {
	d := made(t, 1, roomy)
	leads(t, d, 1)
	asked(t, d, 1, op(putPool("p")))
	asked(t, d, 2, look())
	before := whole(d, 1)
	for _, number := range []int{math.MinInt, -1, 0, 3, math.MaxInt} {
		for _, node := range strange() {
			n, e := d.Try(number, node)
			wantBoth(t, "Try", n, e, 0, api.ErrGone)
		}
	}
	want(t, "behind them", whole(d, 1), before)
	tried(t, d, 1, 1)
	tried(t, d, 2, 1)
	before = whole(d, 1)
	for _, node := range strange() {
		for number := 1; number <= 2; number++ {
			n, e := d.Try(number, node)
			wantBoth(t, "Try", n, e, 0, api.ErrKnown)
		}
	}
	want(t, "behind them", whole(d, 1), before)
}

// P14.2, example 2: at a node that follows, at one that knows no leader, at one that is down, at one that there is not; a Look too.
func TestTryElsewhere(t *testing.T) {
	d := made(t, 3, roomy)
	asked(t, d, 1, op(putPool("p")))
	asked(t, d, 2, look())
	for number := 1; number <= 2; number++ {
		n, e := d.Try(number, 2)
		wantBoth(t, "nobody leads", n, e, 0, api.ErrLeader)
	}
	leads(t, d, 3)
	d.Do(crash(1))
	for number := 1; number <= 2; number++ {
		n, e := d.Try(number, 2)
		wantBoth(t, "at one that follows", n, e, 3, api.ErrLeader)
		n, e = d.Try(number, 1)
		wantBoth(t, "at one that is down", n, e, 0, api.ErrDown)
		for _, node := range []int{math.MinInt, -1, 0, 4, api.MaxNode, math.MaxInt} {
			n, e = d.Try(number, node)
			wantBoth(t, "at one that there is not", n, e, 0, api.ErrArg)
		}
	}
	tried(t, d, 1, 3)
	tried(t, d, 2, 3)
	settle(d)
	want(t, "answered", []int{record(d, 1).Index, record(d, 2).Index}, []int{2, 2})
	explained(t, d)
}

// P14.2: another error of the cluster is told as it is, without a leader.
func TestTryOtherErrors(t *testing.T) {
	d := made(t, 3, roomy)
	d.Do(api.Step{Kind: api.Part, Node: 1, To: 3})
	leads(t, d, 1)
	cut(d, api.Part, 1, 3)
	for client := 1; client <= api.MaxClient; client++ {
		asked(t, d, client, op(putPool("p")))
	}
	tries := 1
	for range 2 * api.MaxLog {
		if _, e := d.Try(1+tries%api.MaxClient, 1); e != api.OK {
			break
		}
		tries++
	}
	want(t, "as many as the log takes", tries, api.MaxLog)
	for number := 1; number <= 3; number++ {
		n, e := d.Try(number, 1)
		wantBoth(t, "too many", n, e, 0, api.ErrBusy)
	}
	narrow := made(t, 1, 22+11+13) // an empty log, a term, a leader's first entry
	leads(t, narrow, 1)
	asked(t, narrow, 1, op(putPool("p")))
	n, e := narrow.Try(1, 1)
	wantBoth(t, "a full disk", n, e, 0, api.ErrFull)
	want(t, "record", record(narrow, 1).To, 0)
}

// P14.2: a record that is tried often, at several nodes, is answered by the first Done of one of its tries, and once (P14.6).
func TestTryOften(t *testing.T) {
	d := made(t, 3, roomy)
	leads(t, d, 1)
	number := asked(t, d, 1, op(putPool("p")))
	cut(d, api.Part, 1, 3)
	tried(t, d, number, 1)
	tried(t, d, number, 1)
	leads(t, d, 2)
	tried(t, d, number, 2)
	tried(t, d, number, 2)
	want(t, "not yet", record(d, number).To, 0)
	settle(d)
	r := record(d, number)
	want(t, "answered", []int{r.Index, r.Result.Version, int(r.Result.E)}, []int{3, 1, 0})
	want(t, "both are done", len(d.Log()), 4)
	cut(d, api.Heal, 1, 3)
	for range 2 * api.Beat {
		d.Do(tick(2))
		settle(d)
	}
	want(t, "it stays answered", record(d, number), r)
	want(t, "done once", d.Config(1).Version, 1)
	want(t, "Log", d.Log()[1:], []api.Entry{
		{Kind: api.Noop, Term: 2, Index: 2},
		{Kind: api.Data, Term: 2, Index: 3, Data: entry(t, 3, by(1, 1, putPool("p"))).Data},
		{Kind: api.Data, Term: 2, Index: 4, Data: entry(t, 4, by(1, 1, putPool("p"))).Data},
	})
	next := asked(t, d, 1, op(putPool("q")))
	tried(t, d, next, 2)
	settle(d)
	want(t, "the next one", record(d, next).Result, api.Result{Version: 2})
	explained(t, d)
}

// A record is answered by its try's own node, index and term: an entry of another one at that index is none of its own, nor is the entry where another node does it.
func TestAnsweredByItsOwn(t *testing.T) {
	d := made(t, 3, roomy)
	leads(t, d, 1)
	cut(d, api.Part, 1, 3)
	lost := asked(t, d, 1, op(putPool("lost")))
	tried(t, d, lost, 1)
	leads(t, d, 2)
	other := asked(t, d, 2, op(putPool("other")))
	tried(t, d, other, 2)
	settle(d)
	cut(d, api.Heal, 1, 3)
	for range 2 * api.Beat {
		d.Do(tick(2))
		settle(d)
	}
	want(t, "node 1 has done what the others did", d.Config(1), d.Config(2))
	want(t, "the other one", []int{record(d, other).To, record(d, other).Index}, []int{record(d, other).To, 3})
	want(t, "the lost one", record(d, lost), api.Record{Op: op(by(1, 1, putPool("lost"))), From: record(d, lost).From})
	n, e := d.Try(lost, 1)
	wantBoth(t, "Try", n, e, 2, api.ErrLeader)
	tried(t, d, lost, 2)
	settle(d)
	want(t, "tried again", record(d, lost).Result.Version, 2)
	explained(t, d)
}

// What its node said ahead of falling is done, but not told: the record stays open until it is tried anew, and then is told the same.
func TestTriesBehindCrash(t *testing.T) {
	d := made(t, 3, roomy)
	leads(t, d, 1)
	number := asked(t, d, 1, op(putPool("p")))
	tried(t, d, number, 1)
	seen := asked(t, d, 2, look())
	tried(t, d, seen, 1)
	d.Do(api.Step{Kind: api.Deliver, At: 0})
	want(t, "Crash", d.Do(crash(1)), api.Told{Node: 1})
	wantOK(t, d.Do(start(1)).E)
	leads(t, d, 1)
	settle(d)
	want(t, "it is done", d.Config(1).Version, 1)
	want(t, "it is done", len(d.Log()), 3)
	want(t, "the command is not answered", record(d, number), api.Record{Op: op(by(1, 1, putPool("p"))), From: record(d, number).From})
	want(t, "the Look is not answered", record(d, seen), api.Record{Op: look(), From: record(d, seen).From})
	tried(t, d, number, 1)
	tried(t, d, seen, 1)
	settle(d)
	want(t, "it was done once", record(d, number).Result, api.Result{Version: 1})
	want(t, "its index", record(d, number).Index, 4)
	want(t, "the Look", []int{record(d, seen).Index, record(d, seen).Config.Version}, []int{4, 1})
	want(t, "Version", d.Config(1).Version, 1)
	explained(t, d)
}

// A crash that is refused, and one of another node, leave the tries.
func TestOtherCrashes(t *testing.T) {
	d := made(t, 3, roomy)
	leads(t, d, 1)
	number := asked(t, d, 1, op(putPool("p")))
	tried(t, d, number, 1)
	want(t, "Crash", d.Do(crash(9)), api.Told{E: api.ErrArg, Node: 9})
	want(t, "Crash", d.Do(crash(2)), api.Told{Node: 2})
	want(t, "Crash", d.Do(crash(2)), api.Told{E: api.ErrDown, Node: 2})
	settle(d)
	want(t, "answered", record(d, number).Index, 2)
}

// P14.2: the tags of Looks are 1, 2, .. as they are tried; those that are refused take none, nor do commands.
func TestTags(t *testing.T) {
	d := made(t, 3, roomy)
	leads(t, d, 1)
	for client := 1; client <= 4; client++ {
		asked(t, d, client, look())
	}
	asked(t, d, 5, op(putPool("p")))
	d.Try(1, 2)
	d.Try(1, 9)
	tried(t, d, 1, 1)
	d.Try(2, 3)
	tried(t, d, 5, 1)
	tried(t, d, 2, 1)
	tried(t, d, 1, 1)
	tried(t, d, 3, 1)
	var tags []int
	for {
		told := d.Do(deliver(0))
		if told.E != api.OK {
			break
		}
		for _, r := range told.Reads {
			tags = append(tags, r.Tag)
		}
	}
	want(t, "tags", tags, []int{1, 2, 3, 4})
	want(t, "the fourth client's was not tried", []int{record(d, 3).Index, record(d, 4).To}, []int{2, 0})
	tried(t, d, 4, 1)
	d.Do(deliver(0))
	want(t, "the next tag", d.Do(deliver(1)).Reads, []api.Read{{Tag: 5, Index: 2}})
	explained(t, d)
}

// A Look tells how far the node has applied, and its configuration, when it is answered: later than when it was asked.
func TestLookTellsWhatIsApplied(t *testing.T) {
	d := made(t, 3, roomy)
	leads(t, d, 1)
	seen := asked(t, d, 1, look())
	number := asked(t, d, 2, op(putPool("p")))
	tried(t, d, seen, 1)
	tried(t, d, number, 1)
	var told api.Told
	for len(told.Reads) == 0 {
		told = d.Do(deliver(2))
		if told.E != api.OK {
			t.Fatalf("error %d", told.E)
		}
	}
	want(t, "told", []int{told.Node, told.Reads[0].Index, len(told.Done)}, []int{1, 1, 1})
	r, x := record(d, seen), record(d, number)
	want(t, "the Look", []int{r.To, r.Index, r.Config.Version}, []int{x.To, 2, 1})
	want(t, "Config", r.Config, d.Config(1))
	want(t, "a Look's Result", r.Result, api.Result{})
	want(t, "a command's Config", x.Config, api.Config{})
	explained(t, d)
}

// P14.3: Do of Submit and of Ask is the desk's own; all else is the cluster's, told as it is.
func TestDo(t *testing.T) {
	d := made(t, 2, roomy)
	leads(t, d, 1)
	before := whole(d, 2)
	for _, kind := range []api.StepKind{api.Submit, api.Ask} {
		want(t, "Do", d.Do(api.Step{Kind: kind, Node: 1, Tag: 1, Command: putPool("p")}), api.Told{E: api.ErrArg})
		want(t, "Do", d.Do(api.Step{Kind: kind, Node: 9}), api.Told{E: api.ErrArg})
	}
	for _, kind := range []api.StepKind{math.MinInt, -1, api.NoStep, api.Ask + 1, math.MaxInt} {
		for _, n := range []int{math.MinInt, -1, 0, 1, 2, 3, math.MaxInt} {
			want(t, "a kind that is none", d.Do(api.Step{Kind: kind, Node: n}), api.Told{E: api.ErrArg, Node: n})
		}
	}
	want(t, "behind them", whole(d, 2), before)
	told := d.Do(api.Step{Kind: api.Reform, Node: 1, Change: api.Change{Do: api.Add, Node: 3}})
	want(t, "Reform", []int{int(told.E), told.Node, told.Index, told.Term}, []int{0, 1, 2, 1})
	want(t, "Reform", d.Do(api.Step{Kind: api.Reform, Node: 2}), api.Told{E: api.ErrLeader, Node: 2})
	want(t, "Lose", d.Do(api.Step{Kind: api.Lose, At: 9}), api.Told{E: api.ErrGone})
	want(t, "Double", d.Do(api.Step{Kind: api.Double, Node: 1}), api.Told{})
	want(t, "Part", d.Do(api.Step{Kind: api.Part, Node: 1, To: 1}), api.Told{E: api.ErrArg})
	want(t, "Start", d.Do(start(1)), api.Told{E: api.ErrKnown, Node: 1})
}

// P14.3: the log has each index once, as the first node told it, those ahead of a snapshot too.
func TestLog(t *testing.T) {
	d := made(t, 3, roomy)
	leads(t, d, 1)
	cut(d, api.Part, 3, 3)
	all := []api.Entry{noop(1, 1)}
	for i := range 3 * api.SnapEvery {
		number := asked(t, d, 1, op(putPool("p")))
		tried(t, d, number, 1)
		settle(d)
		all = append(all, entry(t, i+2, by(1, i+1, putPool("p"))))
		want(t, "Log", len(d.Log()), i+2)
	}
	want(t, "Log", d.Log(), all)
	cut(d, api.Heal, 3, 3)
	for range 2 * api.Beat {
		d.Do(tick(1))
		settle(d)
	}
	want(t, "node 3 has all", d.Config(3), d.Config(1))
	want(t, "Log", d.Log(), all)
	for n := 1; n <= 3; n++ {
		d.Do(crash(n))
	}
	want(t, "Log", d.Log(), all)
	for n := 1; n <= 3; n++ {
		d.Do(start(n))
	}
	leads(t, d, 2)
	want(t, "Log", d.Log(), append(all, noop(2, len(all)+1)))
	explained(t, d)
}

// P14.3: of several leaders the one of the greatest term; who is down leads not.
func TestLeader(t *testing.T) {
	d := made(t, 3, roomy)
	want(t, "nobody", d.Leader(), 0)
	leads(t, d, 3)
	cut(d, api.Part, 3, 3)
	leads(t, d, 1)
	want(t, "two lead, the later one counts", d.Leader(), 1)
	d.Do(crash(1))
	want(t, "the old one leads still", d.Leader(), 3)
	d.Do(crash(3))
	want(t, "nobody", d.Leader(), 0)
	d.Do(start(1))
	want(t, "nobody", d.Leader(), 0)
	leads(t, d, 2)
	want(t, "the next one", d.Leader(), 2)
}

// P14.3: Config is a node's own.
func TestConfig(t *testing.T) {
	d := made(t, 2, roomy)
	leads(t, d, 1)
	number := asked(t, d, 1, op(putPool("p")))
	tried(t, d, number, 1)
	settle(d)
	want(t, "Config", []int{d.Config(1).Version, d.Config(2).Version}, []int{1, 0})
	for range api.Beat {
		d.Do(tick(1))
	}
	settle(d)
	want(t, "Config", d.Config(2), d.Config(1))
	d.Do(crash(2))
	for _, n := range []int{math.MinInt, -1, 0, 2, 3, math.MaxInt} {
		want(t, "Config", d.Config(n), api.Config{})
	}
}

// P3: what is handed in is not kept, what is answered is new memory.
func TestMemory(t *testing.T) {
	d := made(t, 1, roomy)
	leads(t, d, 1)
	targets := spare([]api.Target{{Addr: "a", Weight: 1}}, api.Target{Addr: "behind"})
	asked(t, d, 1, op(api.Command{Act: api.PutPool, Expect: -1, Pool: "p", Targets: targets}))
	want(t, "behind the list", targets[:2], []api.Target{{Addr: "a", Weight: 1}, {Addr: "behind"}})
	targets[0].Addr = "b"
	tried(t, d, 1, 1)
	asked(t, d, 1, look())
	tried(t, d, 2, 1)
	want(t, "what was handed in", d.Config(1).Pools[0].Targets, []api.Target{{Addr: "a", Weight: 1}})
	before := whole(d, 1)
	spoilRecords(d.History())
	spoilEntries(d.Log())
	spoilConfig(d.Config(1))
	want(t, "behind spoiling", whole(d, 1), before)
	told := d.Do(api.Step{Kind: api.Reform, Node: 1, Change: api.Change{Do: api.Add, Node: 2}})
	before = whole(d, 1)
	spoilTold(told)
	want(t, "behind spoiling", whole(d, 1), before)
	h, log := d.History(), d.Log()
	shownBefore := shown(h) + shown(log)
	admin.Judge(h, log...)
	want(t, "behind Judge", shown(h)+shown(log), shownBefore)
}

// P1: numbers of any size wherever a desk takes some.
func TestAnyNumbers(t *testing.T) {
	d := made(t, 2, roomy)
	leads(t, d, 1)
	for _, a := range strange() {
		for _, b := range strange() {
			d.Ask(a, op(api.Command{Act: api.Act(b), Client: b, Seq: a, Expect: b}))
			d.Try(a, b)
			d.Do(api.Step{Kind: api.StepKind(a), Node: b, To: a, At: b, Draw: a, Keep: []int{a, b}})
			d.Config(a)
			x := api.Record{Op: api.Op{Look: a > b}, From: a, To: b, Index: a}
			admin.Judge([]api.Record{x, x}, api.Entry{Kind: api.EntryKind(b), Index: a, Term: b})
			admin.Judge([]api.Record{x}, api.Entry{Kind: api.EntryKind(b), Index: 1, Term: b})
		}
	}
	explained(t, d)
}
