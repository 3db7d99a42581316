package node_test

import (
	"bytes"
	"fmt"
	"math"
	"strings"
	"testing"

	"tollgate/api"
	"tollgate/conf"
	"tollgate/disk"
	"tollgate/member"
	"tollgate/node"
	"tollgate/snap"
	"tollgate/wal"
	"tollgate/wire"
)

const roomy = 1 << 20

// chance is a row of numbers that is the same each time.
type chance uint64

func (c *chance) below(n int) int {
	*c = *c*6364136223846793005 + 1442695040888963407
	return int(uint64(*c) >> 33 % uint64(n))
}

// oneOf is true once in so many times.
func (c *chance) oneOf(n int) bool { return c.below(n) == 0 }

func (c *chance) aDraw() int {
	draws := []int{0, -1, math.MaxInt, math.MinInt, 9, 10, c.below(100), c.below(100), c.below(100) - 200}
	return draws[c.below(len(draws))]
}

// shown tells a list that is nil as one that is empty.
func shown(x any) string { return fmt.Sprintf("%+v", x) }

func want(t *testing.T, what string, got, want any) {
	t.Helper()
	if shown(got) != shown(want) {
		t.Errorf("%s:\n%s\nwant\n%s", what, shown(got), shown(want))
	}
}

func wantOK(t *testing.T, e api.Errno) {
	t.Helper()
	if e != api.OK {
		t.Fatalf("error %d", e)
	}
}

func voters(n ...int) api.Members { return api.Members{Voters: n} }

func putPool(name string) api.Command {
	return api.Command{Act: api.PutPool, Expect: -1, Pool: name, Targets: []api.Target{{Addr: name + ":1", Weight: 1}, {Addr: name + ":2", Weight: 3}}}
}

func putRoute(host, prefix, pool string) api.Command {
	return api.Command{Act: api.PutRoute, Expect: -1, Host: host, Prefix: prefix, Pool: pool}
}

// nothing is a command that is refused by every store without that pool.
func nothing() api.Command { return api.Command{Act: api.DropPool, Expect: -1, Pool: "none"} }

func noop(term, index int) api.Entry { return api.Entry{Kind: api.Noop, Term: term, Index: index} }

func data(term, index int, b string) api.Entry {
	return api.Entry{Kind: api.Data, Term: term, Index: index, Data: []byte(b)}
}

func command(t *testing.T, term, index int, c api.Command) api.Entry {
	t.Helper()
	b, e := conf.PutCommand(c)
	wantOK(t, e)
	return data(term, index, string(b))
}

func turn(t *testing.T, term, index int, do api.Do, who int) api.Entry {
	t.Helper()
	b, e := member.PutChange(api.Change{Do: do, Node: who})
	wantOK(t, e)
	return api.Entry{Kind: api.Turn, Term: term, Index: index, Data: b}
}

// rowOf are Noops of these terms, from an index on.
func rowOf(from int, terms ...int) []api.Entry {
	var l []api.Entry
	for i, term := range terms {
		l = append(l, noop(term, from+i))
	}
	return l
}

// stored is a store's bytes behind these commands.
func stored(commands ...api.Command) []byte {
	s := conf.New()
	for _, c := range commands {
		s.Do(c)
	}
	return s.Put()
}

func snapOf(index, term int, m api.Members, commands ...api.Command) api.Snap {
	return api.Snap{Mark: api.Mark{Index: index, Term: term}, Members: m, Data: stored(commands...)}
}

// plantLog lays a log on a disk.
func plantLog(t *testing.T, d *disk.Disk, base api.Mark, hard api.Hard, entries ...api.Entry) {
	t.Helper()
	l, e := wal.Open(d)
	wantOK(t, e)
	if base != (api.Mark{}) {
		wantOK(t, l.Reset(base))
	}
	wantOK(t, l.SetHard(hard))
	wantOK(t, l.Append(entries...))
	wantOK(t, l.Sync())
}

func plantFile(t *testing.T, d *disk.Disk, name, b string) {
	t.Helper()
	wantOK(t, d.Write(name, 0, []byte(b)))
	wantOK(t, d.Sync(name))
}

func open(t *testing.T, d *disk.Disk, id int, m api.Members, draw int) *node.Node {
	t.Helper()
	n, e := node.Open(d, id, m, draw)
	if n == nil || e != api.OK {
		t.Fatalf("Open: error %d", e)
	}
	return n
}

// refused: Open tells that error, and no node.
func refused(t *testing.T, what string, want api.Errno, d *disk.Disk, id int, m api.Members) {
	t.Helper()
	if n, e := node.Open(d, id, m, 0); n != nil || e != want {
		t.Errorf("Open, %s: error %d, node %t; want error %d", what, e, n != nil, want)
	}
}

// bytesOf is a message's bytes.
func bytesOf(t *testing.T, m api.Msg) []byte {
	t.Helper()
	b, e := wire.PutMsg(m)
	wantOK(t, e)
	return b
}

// read tells packets as the messages that they hold.
func read(t *testing.T, l []api.Packet) []api.Msg {
	t.Helper()
	var all []api.Msg
	for _, p := range l {
		m, e := wire.GetMsg(p.Bytes)
		if e != api.OK || p.From != m.From || p.To != m.To || p.Id != 0 {
			t.Errorf("a packet %+v: error %d", p, e)
		}
		all = append(all, m)
	}
	return all
}

// appends is a leader's message: entries behind a place.
func appends(from, to, term int, behind api.Mark, commit int, entries ...api.Entry) api.Msg {
	return api.Msg{Kind: api.Append, From: from, To: to, Term: term, Index: behind.Index, LogTerm: behind.Term, Commit: commit, Entries: entries}
}

// install is a leader's message with a snapshot.
func install(t *testing.T, from, to, term int, s api.Snap) api.Msg {
	t.Helper()
	b, e := snap.Put(s)
	wantOK(t, e)
	return api.Msg{Kind: api.Install, From: from, To: to, Term: term, Index: s.Mark.Index, LogTerm: s.Mark.Term, Data: b}
}

// onDisk is all that can be seen of a disk.
func onDisk(d *disk.Disk) string {
	var b strings.Builder
	for _, name := range d.Names() {
		all, _ := d.Read(name)
		sure, e := d.Sure(name)
		fmt.Fprintf(&b, "%s %x, sure %x %d\n", name, all, sure, e)
	}
	return b.String()
}

func requests() []string {
	return []string{
		"GET / HTTP/1.1\r\nhost: a\r\n\r\n",
		"GET /x/y HTTP/1.1\r\nhost: a\r\n\r\n",
		"GET / HTTP/1.1\r\nhost: b.c\r\n\r\n",
		"GET /x HTTP/1.1\r\nhost: b.c\r\n\r\nmore",
		"GET / HTTP/1.1\r\n\r\n",
		"",
	}
}

// inside is what a node tells of itself.
func inside(n *node.Node) string {
	return shown(n.View()) + shown(n.Entries(math.MinInt, math.MaxInt)) + shown(n.Config()) + shown(n.Applied())
}

// served are its answers to some requests.
func served(serve func(b []byte, draw float64) api.Reply) string {
	var l []api.Reply
	for _, r := range requests() {
		for _, draw := range []float64{0, 0.9, math.NaN()} {
			l = append(l, serve([]byte(r), draw))
		}
	}
	return shown(l)
}

// spoil changes bytes, with the room behind them.
func spoil(b []byte) {
	b = b[:cap(b)]
	for i := range b {
		b[i] ^= 0x55
	}
}

func spoilEntries(l []api.Entry) {
	l = l[:cap(l)]
	for _, x := range l {
		spoil(x.Data)
	}
	clear(l)
}

func spoilMembers(m api.Members) {
	clear(m.Voters[:cap(m.Voters)])
	clear(m.Learners[:cap(m.Learners)])
}

func spoilConfig(c api.Config) {
	for _, p := range c.Pools {
		clear(p.Targets[:cap(p.Targets)])
	}
	clear(c.Pools[:cap(c.Pools)])
	clear(c.Routes[:cap(c.Routes)])
}

func spoilOut(o api.Out) {
	for _, p := range o.Msgs {
		spoil(p.Bytes)
	}
	clear(o.Msgs[:cap(o.Msgs)])
	clear(o.Done[:cap(o.Done)])
	spoilEntries(o.Log)
	clear(o.Reads[:cap(o.Reads)])
}

const behind = "behind"

// spare is a list with bytes behind its end, which nobody may look at or write to.
func spare(b []byte) []byte { return append(bytes.Clone(b), behind...)[:len(b)] }
