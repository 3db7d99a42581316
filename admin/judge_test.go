package admin_test

import (
	"math"
	"slices"
	"testing"

	"tollgate/admin"
	"tollgate/api"
	"tollgate/conf"
	"tollgate/member"
)

func poolOf(client int) api.Command { return by(client, 1, putPool("p")) }

func routeOf(client int) api.Command {
	return by(client, 1, api.Command{Act: api.PutRoute, Expect: -1, Host: "a", Prefix: "/", Pool: "p"})
}

func dropOf(client int) api.Command {
	return by(client, 1, api.Command{Act: api.DropPool, Expect: -1, Pool: "p"})
}

// aLog has all kinds of entries: the pool at 2 and again at 6, the route at 4, at 7 a command that is refused.
func aLog(t *testing.T) []api.Entry {
	t.Helper()
	turn, e := member.PutChange(api.Change{Do: api.Add, Node: 4})
	wantOK(t, e)
	return []api.Entry{
		noop(1, 1),
		entry(t, 2, poolOf(1)),
		{Kind: api.Turn, Term: 1, Index: 3, Data: turn},
		entry(t, 4, routeOf(2)),
		{Kind: api.Data, Term: 1, Index: 5, Data: []byte("none")},
		entry(t, 6, poolOf(1)),
		entry(t, 7, dropOf(3)),
	}
}

// configs are those behind each index of a log, that of index 0 first.
func configs(log []api.Entry) []api.Config {
	s := conf.New()
	all := []api.Config{s.Config()}
	for _, x := range log {
		if c, e := conf.GetCommand(x.Data); e == api.OK && x.Kind == api.Data {
			s.Do(c)
		}
		all = append(all, s.Config())
	}
	return all
}

// did is a command's record.
func did(c api.Command, from, to, index int, r api.Result) api.Record {
	return api.Record{Op: op(c), From: from, To: to, Index: index, Result: r}
}

func saw(from, to, index int, c api.Config) api.Record {
	return api.Record{Op: look(), From: from, To: to, Index: index, Config: c}
}

// judge holds Judge against what it should answer, and against the chapter's words.
func judge(t *testing.T, what string, l []api.Record, log []api.Entry, place int, should api.Errno) {
	t.Helper()
	at, e := admin.Judge(l, log...)
	wantBoth(t, what, at, e, place, should)
	at, e = judged(l, log)
	wantBoth(t, what+" (the model)", at, e, place, should)
}

// good are records that the log explains, one for each of its commands, and Looks between them.
func good(log []api.Entry) []api.Record {
	c := configs(log)
	return []api.Record{
		saw(1, 1, 0, c[0]),
		did(poolOf(1), 1, 3, 2, api.Result{Version: 1}),
		saw(2, 4, 2, c[2]),
		did(routeOf(2), 4, 6, 4, api.Result{Version: 2}),
		saw(6, 7, 5, c[5]),
		did(dropOf(3), 8, 9, 7, api.Result{E: api.ErrBusy, Version: 2}),
		saw(10, 11, 7, c[7]),
	}
}

// P14.4: nil and empty lists.
func TestJudgeNothing(t *testing.T) {
	log := aLog(t)
	judge(t, "nothing", nil, nil, 0, api.OK)
	judge(t, "empty lists", []api.Record{}, []api.Entry{}, 0, api.OK)
	judge(t, "no records", nil, log, 0, api.OK)
	judge(t, "no log", []api.Record{saw(1, 1, 0, api.Config{Routes: []api.Route{}, Pools: []api.Pool{}})}, nil, 0, api.OK)
	judge(t, "no log, and a command", []api.Record{did(poolOf(1), 1, 1, 0, api.Result{})}, nil, 0, api.ErrStale)
	at, e := admin.Judge([]api.Record{{}, {}})
	wantBoth(t, "no entries at all", at, e, 0, api.OK)
}

func TestJudgeGood(t *testing.T) {
	log := aLog(t)
	judge(t, "all of them", good(log), log, 0, api.OK)
	back := good(log)
	slices.Reverse(back)
	judge(t, "in any order", back, log, 0, api.OK)
}

// P14.4: a log's entries have the indices 1, 2, ..; that is named first, and has no place.
func TestJudgeLog(t *testing.T) {
	log := aLog(t)
	bad := slices.Concat(good(log), []api.Record{{To: -1}})
	for i := range log {
		if i < len(log)-1 {
			judge(t, "a gap", bad, slices.Delete(slices.Clone(log), i, i+1), 0, api.ErrForm)
		}
		for _, index := range []int{math.MinInt, -1, 0, i, i + 2, math.MaxInt} {
			wrong := slices.Clone(log)
			wrong[i].Index = index
			judge(t, "an index", bad, wrong, 0, api.ErrForm)
			judge(t, "an index", nil, wrong, 0, api.ErrForm)
		}
	}
	judge(t, "twice", nil, append(slices.Clone(log), log...), 0, api.ErrForm)
	judge(t, "terms and kinds play no part", nil, []api.Entry{{Index: 1, Term: -5}, {Index: 2, Kind: 99, Term: 3}, {Index: 3, Kind: -1}}, 0, api.OK)
}

// P14.4: a record that is not answered is not looked at, whatever it says; nor are others held against it.
func TestJudgeNotAnswered(t *testing.T) {
	log := aLog(t)
	for _, r := range []api.Record{{}, {From: -1}, {From: 9, Index: -1}, {Index: 99}, did(poolOf(9), 1, 0, 2, api.Result{}), saw(1, 0, 7, api.Config{Version: 9})} {
		judge(t, shown(r), slices.Concat([]api.Record{r}, good(log), []api.Record{r}), log, 0, api.OK)
	}
}

// P14.4: From, To and Index at their edges; ErrArg is named first.
func TestJudgeNumbers(t *testing.T) {
	log := aLog(t)
	c := configs(log)
	for _, x := range []struct {
		from, to, index int
		e               api.Errno
	}{
		{1, 1, 0, api.OK}, {1, 1, 7, api.OK}, {1, math.MaxInt, 3, api.OK}, {math.MaxInt, math.MaxInt, 3, api.OK},
		{0, 1, 0, api.ErrArg}, {-1, 1, 0, api.ErrArg}, {math.MinInt, 1, 0, api.ErrArg}, {2, 1, 0, api.ErrArg}, {math.MaxInt, 1, 0, api.ErrArg},
		{1, -1, 0, api.ErrArg}, {-2, -1, 0, api.ErrArg}, {math.MinInt, math.MinInt, 0, api.ErrArg},
		{1, 1, -1, api.ErrArg}, {1, 1, 8, api.ErrArg}, {1, 1, math.MinInt, api.ErrArg}, {1, 1, math.MaxInt, api.ErrArg},
	} {
		right := api.Config{}
		if x.index >= 0 && x.index < len(c) {
			right = c[x.index]
		}
		judge(t, "a Look", []api.Record{{}, saw(x.from, x.to, x.index, right)}, log, place(1, x.e), x.e)
		if x.e != api.OK {
			judge(t, "a Look that is wrong too", []api.Record{{}, saw(x.from, x.to, x.index, api.Config{Version: 9})}, log, 1, x.e)
			judge(t, "a command that is wrong too", []api.Record{{}, {}, did(poolOf(9), x.from, x.to, x.index, api.Result{})}, log, 2, x.e)
		}
	}
}

// place is where a fault is told, if there is one.
func place(at int, e api.Errno) int {
	if e == api.OK {
		return 0
	}
	return at
}

// P14.4: of a command: the entry at its index is that command, and comes to its result there.
func TestJudgeCommand(t *testing.T) {
	log := aLog(t)
	one := api.Result{Version: 1}
	for index := range len(log) + 1 {
		e := api.ErrStale
		if index == 2 || index == 6 {
			e = api.OK
		}
		judge(t, "at another index", []api.Record{did(poolOf(1), 1, 1, index, one)}, log, 0, e)
	}
	for _, r := range []api.Result{{}, {Version: 2}, {E: api.ErrGone, Version: 1}, {E: api.ErrForm, Version: 1}} {
		for _, index := range []int{2, 6} {
			judge(t, "another result", []api.Record{did(poolOf(1), 1, 1, index, r)}, log, 0, api.ErrStale)
		}
	}
	judge(t, "one that is refused", []api.Record{did(dropOf(3), 1, 1, 7, api.Result{E: api.ErrBusy, Version: 2})}, log, 0, api.OK)
	judge(t, "bytes that are none", []api.Record{did(api.Command{}, 1, 1, 5, api.Result{E: api.ErrForm, Version: 2})}, log, 0, api.ErrStale)
	judge(t, "no command where there is none", []api.Record{did(api.Command{}, 1, 1, 1, api.Result{})}, log, 0, api.ErrStale)
	judge(t, "no command at 0", []api.Record{did(api.Command{}, 1, 1, 0, api.Result{})}, log, 0, api.ErrStale)
}

// P14.4: just that command: each part of it counts, a weight's sign too; a list may be nil where it is empty.
func TestJudgeJustThatCommand(t *testing.T) {
	full := api.Command{Act: api.PutPool, Client: 1, Seq: 1, Expect: 0, Pool: "p", Targets: []api.Target{{Addr: "a", Weight: 0}, {Addr: "b", Weight: 2}}}
	route := routeOf(1)
	empty := api.Command{Act: api.PutPool, Client: 1, Seq: 1, Expect: -1, Pool: "e"}
	log := []api.Entry{entry(t, 1, full), entry(t, 2, by(1, 2, route)), entry(t, 3, by(1, 3, empty))}
	judge(t, "it", []api.Record{did(full, 1, 1, 1, api.Result{Version: 1})}, log, 0, api.OK)
	with := func(change func(c *api.Command)) api.Command {
		c := full
		c.Targets = slices.Clone(full.Targets)
		change(&c)
		return c
	}
	for _, c := range []api.Command{
		with(func(c *api.Command) { c.Act = api.DropPool }),
		with(func(c *api.Command) { c.Client = 2 }),
		with(func(c *api.Command) { c.Client, c.Seq = 0, 0 }),
		with(func(c *api.Command) { c.Seq = 2 }),
		with(func(c *api.Command) { c.Expect = -1 }),
		with(func(c *api.Command) { c.Expect = 1 }),
		with(func(c *api.Command) { c.Host = "a" }),
		with(func(c *api.Command) { c.Prefix = "/" }),
		with(func(c *api.Command) { c.Pool = "q" }),
		with(func(c *api.Command) { c.Targets = nil }),
		with(func(c *api.Command) { c.Targets = c.Targets[:1] }),
		with(func(c *api.Command) { c.Targets[0].Addr = "c" }),
		with(func(c *api.Command) { c.Targets[1].Weight = 3 }),
		with(func(c *api.Command) { c.Targets[0].Weight = math.Copysign(0, -1) }),
		with(func(c *api.Command) { c.Targets[1].Weight = math.NaN() }),
		with(func(c *api.Command) { slices.Reverse(c.Targets) }),
	} {
		judge(t, shown(c), []api.Record{did(c, 1, 1, 1, api.Result{Version: 1})}, log, 0, api.ErrStale)
	}
	judge(t, "a route", []api.Record{did(by(1, 2, route), 1, 1, 2, api.Result{Version: 2})}, log, 0, api.OK)
	for _, change := range []func(c *api.Command){func(c *api.Command) { c.Host = "b" }, func(c *api.Command) { c.Prefix = "/x" }, func(c *api.Command) { c.Pool = "q" }} {
		c := by(1, 2, route)
		change(&c)
		judge(t, shown(c), []api.Record{did(c, 1, 1, 2, api.Result{Version: 2})}, log, 0, api.ErrStale)
	}
	none := by(1, 3, empty)
	none.Targets = []api.Target{}
	judge(t, "an empty list", []api.Record{did(none, 1, 1, 3, api.Result{Version: 3})}, log, 0, api.OK)
}

// P14.4: only an entry of kind Data is a command, whatever bytes another one has; the store does none of the others.
func TestJudgeKinds(t *testing.T) {
	for _, kind := range []api.EntryKind{-1, api.NoEntry, api.Noop, api.Turn, api.Turn + 1} {
		first := entry(t, 1, poolOf(1))
		first.Kind = kind
		log := []api.Entry{first, entry(t, 2, poolOf(1)), entry(t, 3, routeOf(2))}
		c := configs(log)
		judge(t, "at another kind", []api.Record{did(poolOf(1), 1, 1, 1, api.Result{Version: 1})}, log, 0, api.ErrStale)
		judge(t, "a Look", []api.Record{saw(1, 1, 1, api.Config{}), saw(2, 2, 2, c[2])}, log, 0, api.OK)
		judge(t, "it counts at 2", []api.Record{saw(1, 1, 1, c[1]), did(poolOf(1), 2, 2, 2, api.Result{Version: 1})}, log, 0, api.OK)
	}
}

// P14.4: of a Look: the configuration behind the entry at its index, each part of it.
func TestJudgeLook(t *testing.T) {
	log := aLog(t)
	c := configs(log)
	for index := range c {
		for k := range c {
			e := api.ErrStale
			if shown(c[k]) == shown(c[index]) {
				e = api.OK
			}
			judge(t, "a Look", []api.Record{saw(1, 1, index, c[k])}, log, 0, e)
		}
	}
	for i, change := range []func(c *api.Config){
		func(c *api.Config) { c.Version-- },
		func(c *api.Config) { c.Routes = nil },
		func(c *api.Config) { c.Routes = append(c.Routes, c.Routes...) },
		func(c *api.Config) { c.Routes[0].Host = "b" },
		func(c *api.Config) { c.Routes[0].Prefix = "/x" },
		func(c *api.Config) { c.Routes[0].Pool = "q" },
		func(c *api.Config) { c.Pools = nil },
		func(c *api.Config) { c.Pools = append(c.Pools, c.Pools...) },
		func(c *api.Config) { c.Pools[0].Name = "q" },
		func(c *api.Config) { c.Pools[0].Targets = nil },
		func(c *api.Config) { c.Pools[0].Targets = append(c.Pools[0].Targets, c.Pools[0].Targets...) },
		func(c *api.Config) { c.Pools[0].Targets[0].Addr = "x" },
		func(c *api.Config) { c.Pools[0].Targets[0].Weight = 2 },
		func(c *api.Config) { c.Pools[0].Targets[0].Weight = math.NaN() },
	} {
		x := configs(log)[7]
		change(&x)
		judge(t, "changed by "+shown(i), []api.Record{saw(1, 1, 7, c[7]), saw(1, 1, 7, x)}, log, 1, api.ErrStale)
	}
	zero := []api.Entry{entry(t, 1, api.Command{Act: api.PutPool, Expect: -1, Pool: "p", Targets: []api.Target{{Addr: "a"}}})}
	x := configs(zero)[1]
	judge(t, "a weight of 0", []api.Record{saw(1, 1, 1, x)}, zero, 0, api.OK)
	x.Pools[0].Targets[0].Weight = math.Copysign(0, -1)
	judge(t, "a weight of -0", []api.Record{saw(1, 1, 1, x)}, zero, 0, api.ErrStale)
	judge(t, "a Look's command plays no part", []api.Record{{Op: api.Op{Look: true, Command: poolOf(1)}, From: 1, To: 1, Index: 7, Config: c[7], Result: api.Result{Version: 9}}}, log, 0, api.OK)
	judge(t, "a command's configuration plays no part", []api.Record{{Op: op(poolOf(1)), From: 1, To: 1, Index: 2, Config: c[7], Result: api.Result{Version: 1}}}, log, 0, api.OK)
}

// P14.4: what was answered ahead of asking counts ahead: wherever both stand in the list, the later one has the fault.
func TestJudgeOrder(t *testing.T) {
	log := aLog(t)
	c := configs(log)
	pool := func(from, to, index int) api.Record { return did(poolOf(1), from, to, index, api.Result{Version: 1}) }
	route := func(from, to int) api.Record { return did(routeOf(2), from, to, 4, api.Result{Version: 2}) }
	seen := func(from, to, index int) api.Record { return saw(from, to, index, c[index]) }
	for _, x := range []struct {
		what         string
		first, later api.Record
		e            api.Errno
	}{
		{"commands", pool(1, 5, 2), route(6, 7), api.OK},
		{"commands, turned", route(1, 5), pool(6, 7, 2), api.ErrStale},
		{"at the same time", route(1, 6), pool(6, 7, 2), api.OK},
		{"one within the other", route(3, 5), pool(2, 7, 2), api.OK},
		{"a Look behind a command", pool(1, 5, 2), seen(6, 7, 2), api.OK},
		{"a Look that is too old", pool(1, 5, 2), seen(6, 7, 1), api.ErrStale},
		{"a Look that is too old, at the same time", pool(1, 5, 2), seen(5, 7, 1), api.OK},
		{"Looks of one index", seen(1, 5, 3), seen(6, 7, 3), api.OK},
		{"Looks", seen(1, 5, 3), seen(6, 7, 4), api.OK},
		{"Looks, turned", seen(1, 5, 4), seen(6, 7, 3), api.ErrStale},
		{"Looks, turned, though they saw the same", seen(1, 5, 3), seen(6, 7, 2), api.ErrStale},
		{"a command behind a Look", seen(1, 5, 3), route(6, 7), api.OK},
		{"a command that was seen ahead of its asking", seen(1, 5, 4), route(6, 7), api.ErrStale},
		{"a command that was seen ahead of its asking, at the same time", seen(1, 6, 4), route(6, 7), api.OK},
		{"a command ahead of what was seen", seen(1, 5, 7), route(6, 7), api.ErrStale},
		{"a command twice", pool(1, 5, 2), pool(6, 7, 6), api.OK},
		{"a command twice, the later one at the earlier index", pool(1, 5, 6), pool(6, 7, 2), api.OK},
		{"a command twice, at one index", pool(1, 5, 6), pool(6, 7, 6), api.OK},
		{"it counts at the first index", pool(1, 5, 6), seen(6, 7, 3), api.OK},
		{"it counts at the first index, ahead of the other one", route(1, 5), pool(6, 7, 6), api.ErrStale},
		{"it counts at the first index, and was seen", seen(1, 5, 2), pool(6, 7, 6), api.ErrStale},
		{"it counts at the first index, and was not seen", seen(1, 5, 1), pool(6, 7, 6), api.OK},
	} {
		judge(t, x.what, []api.Record{x.first, x.later}, log, place(1, x.e), x.e)
		judge(t, x.what, []api.Record{{}, x.later, {}, x.first}, log, place(1, x.e), x.e)
		judge(t, x.what, []api.Record{seen(20, 20, 7), seen(1, 1, 0), x.first, {}, x.later}, log, place(4, x.e), x.e)
	}
}

// P14.4: a record is held only against such as have no fault of the first two kinds.
func TestJudgeAgainstGoodOnes(t *testing.T) {
	log := aLog(t)
	c := configs(log)
	later := saw(6, 7, 1, c[1])
	for _, x := range []struct {
		first api.Record
		place int
		e     api.Errno
	}{
		{did(poolOf(1), 1, 5, 2, api.Result{Version: 1}), 0, api.ErrStale},
		{did(poolOf(1), 1, 5, 2, api.Result{Version: 2}), 1, api.ErrStale},
		{did(poolOf(1), 1, 5, 4, api.Result{Version: 1}), 1, api.ErrStale},
		{did(poolOf(1), 0, 5, 2, api.Result{Version: 1}), 1, api.ErrArg},
		{did(poolOf(1), 1, 0, 2, api.Result{Version: 1}), 0, api.OK},
		{saw(1, 5, 2, c[2]), 0, api.ErrStale},
		{saw(1, 5, 2, c[1]), 1, api.ErrStale},
		{saw(1, 5, 8, c[7]), 1, api.ErrArg},
		{saw(5, -5, 7, c[7]), 1, api.ErrArg},
	} {
		judge(t, shown(x.first), []api.Record{later, x.first}, log, x.place, x.e)
	}
}

// P14.4: from the first record on the first fault, be others worse.
func TestJudgeFirstFault(t *testing.T) {
	log := aLog(t)
	c := configs(log)
	order, stale, arg := saw(9, 9, 1, c[1]), saw(1, 1, 2, c[1]), saw(0, 1, 1, c[1])
	for _, x := range []struct {
		l     []api.Record
		place int
		e     api.Errno
	}{
		{[]api.Record{order, stale, arg}, 2, api.ErrStale},
		{[]api.Record{stale, arg, order}, 2, api.ErrStale},
		{[]api.Record{arg, order, stale}, 2, api.ErrArg},
		{[]api.Record{arg, stale}, 2, api.ErrArg},
	} {
		ahead := []api.Record{did(poolOf(1), 1, 3, 2, api.Result{Version: 1}), {}}
		judge(t, shown(x.l), slices.Concat(ahead, x.l), log, x.place, x.e)
	}
}

// Each fault at each place of a history that is good else.
func TestJudgeEachPlace(t *testing.T) {
	log := aLog(t)
	for i := range good(log) {
		for e, change := range map[api.Errno]func(r *api.Record){
			api.ErrArg: func(r *api.Record) { r.From = r.To + 1 },
			api.ErrStale: func(r *api.Record) {
				r.Result.Version += 5
				r.Config.Version += 5
			},
		} {
			l := good(log)
			change(&l[i])
			judge(t, "changed at "+shown(i), l, log, i, e)
		}
	}
	for i := 1; i < len(log); i++ {
		l := good(log)
		l = slices.Insert(l, min(i, len(l)), saw(20, 21, 1, api.Config{}))
		judge(t, "an old Look at "+shown(i), l, log, min(i, len(l)), api.ErrStale)
	}
}

// P3, and a list's spare room: Judge changes nothing, and looks at nothing behind a list's end.
func TestJudgeMemory(t *testing.T) {
	log := aLog(t)
	l := spare(good(log), api.Record{To: -1})
	longer := spare(log, api.Entry{Index: 99})
	before := shown(l[:cap(l)]) + shown(longer[:cap(longer)])
	judge(t, "with room behind", l, longer, 0, api.OK)
	want(t, "behind it", shown(l[:cap(l)])+shown(longer[:cap(longer)]), before)
}

// A long history is judged in a time that does not grow with its square.
func TestJudgeLong(t *testing.T) {
	const most = 60000
	var log []api.Entry
	var l []api.Record
	for i := range most {
		c := api.Command{Act: api.DropPool, Client: 1 + i%api.MaxClient, Seq: 1 + i/api.MaxClient, Expect: -1, Pool: "p"}
		log = append(log, entry(t, i+1, c))
		l = append(l, did(c, 2*i+1, 2*i+2, i+1, api.Result{E: api.ErrGone}), saw(2*i+2, 2*i+2, i+1, api.Config{}))
	}
	at, e := admin.Judge(l, log...)
	wantBoth(t, "a long history", at, e, 0, api.OK)
	l = append(l, saw(2*most+1, 2*most+1, most-1, api.Config{}))
	at, e = admin.Judge(l, log...)
	wantBoth(t, "one that is too old", at, e, 2*most, api.ErrStale)
}
